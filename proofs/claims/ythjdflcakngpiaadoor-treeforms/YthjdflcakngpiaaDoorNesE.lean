import Derived.Test.YthjdflcakngpiaaDoorNesB
namespace Go.Proofs.YthjdflcakngpiaaDoor
open Go.RowKit
set_option linter.unusedVariables false

/-- A node's five cells. -/
def Nd.cs (x : Nd) : List Value := [.int .i64 x.op, .int .i32 x.val, .string x.name, .int .i64 x.line, .int .i64 x.col]
def cellsN (L : List Nd) : List Value := L.flatMap Nd.cs
theorem cellsN_len (L : List Nd) : (cellsN L).length = L.length * 5 := by
  induction L with
  | nil => rfl
  | cons x L ih => unfold cellsN at *; rw [List.flatMap_cons, List.length_append, ih]; simp [Nd.cs]; omega
theorem cellsN_append (S T : List Nd) : cellsN (S ++ T) = cellsN S ++ cellsN T := by unfold cellsN; simp
theorem cellsN_get : ∀ (S : List Nd) (i j : Nat) (h : i < S.length), j < 5 → (cellsN S)[i * 5 + j]? = (S[i].cs)[j]? := by
  intro S
  induction S with
  | nil => intro i j h; simp at h
  | cons x S ih =>
    intro i j h hj
    have e : cellsN (x :: S) = x.cs ++ cellsN S := by unfold cellsN; rw [List.flatMap_cons]
    have hl : x.cs.length = 5 := rfl
    rw [e]
    cases i with
    | zero => rw [List.getElem?_append_left (by rw [hl]; omega)]; simp
    | succ i =>
      rw [List.getElem?_append_right (by rw [hl]; omega), hl, show (i + 1) * 5 + j - 5 = i * 5 + j by omega, ih i j (by simpa using h) hj]
      simp
theorem cellsN_one (L : List Nd) : ∀ u ∈ cellsN L, u.oneCell' = true := by
  intro u hu
  unfold cellsN at hu
  obtain ⟨x, _, hx⟩ := List.mem_flatMap.1 hu
  unfold Nd.cs at hx
  simp at hx
  rcases hx with rfl | rfl | rfl | rfl | rfl <;> rfl
/-- An own list, cut, as it is read. -/
theorem nds_of {w : World} {base g cap n c' : Nat} {L : List Nd} (h : w.ownsRow base 59 5 (.slice (some ⟨g, 0, none⟩) L.length cap) L.length (cellsN L)) (hn : n ≤ L.length) :
    Nds w (.slice (some ⟨g, 0, none⟩) n c') (L.take n) := by
  refine ⟨_, c', by rw [List.length_take, Nat.min_eq_left hn], .inr ⟨g, 0, rfl, (own_lt h g rfl).2, fun i hi => ?_⟩⟩
  have hi' : i < L.length := by simp at hi; omega
  have key : ∀ j u, j < 5 → (L[i].cs)[j]? = some u → w.cell? ⟨g, i * 5 + j, none⟩ = some u := by
    intro j u hj hu
    rw [h.cellAt _ (by omega), cellsN_get L i j hi' hj]; exact hu
  rw [List.getElem_take]
  simp only [Nat.zero_add]
  exact ⟨key 0 _ (by omega) rfl, key 1 _ (by omega) rfl, key 2 _ (by omega) rfl, key 3 _ (by omega) rfl, key 4 _ (by omega) rfl⟩
theorem nds_news {w : World} {ad : Addr} {cap : Nat} {L : List Nd} (h : Nds w (.slice (some ad) L.length cap) L) : ∀ j u, (cellsN L)[j]? = some u → w.cell? (ad.add j) = some u := by
  intro j u hu
  have hj : j < L.length * 5 := by rw [← cellsN_len]; exact (List.getElem?_eq_some_iff.1 hu).1
  obtain ⟨a, c, e, hx⟩ := h
  cases e
  obtain ⟨g', o', e, hg, hC⟩ := hx.resolve_left (by intro h; rw [h] at hj; simp at hj)
  cases e
  have hi : j / 5 < L.length := by omega
  have hm : j % 5 < 5 := Nat.mod_lt _ (by omega)
  have hjj : j = j / 5 * 5 + j % 5 := by omega
  rw [hjj, cellsN_get L (j / 5) (j % 5) hi hm] at hu
  obtain ⟨h0, h1, h2, h3, h4⟩ := hC (j / 5) hi
  rw [Go.WideShapes.add_plain, hjj, ← Nat.add_assoc]
  generalize j / 5 = q at *
  have : j % 5 = 0 ∨ j % 5 = 1 ∨ j % 5 = 2 ∨ j % 5 = 3 ∨ j % 5 = 4 := by omega
  rcases this with e | e | e | e | e <;> rw [e] at hu ⊢ <;> simp [Nd.cs] at hu <;> subst hu
  · exact h0
  · exact h1
  · exact h2
  · exact h3
  · exact h4

theorem info41 : (Tryd.prog.info? 59).map (fun i => (i.zero, i.size, i.bytes)) = some (some (.agg #[.int .i64 0, .int .i32 0, .string ⟨#[]⟩, .int .i64 0, .int .i64 0]), 5, 48) := by kernel_rfl
theorem grown_belowE {B : Nat} {w A C : World} {row : Option Nat} (h : Below B w A) (hg : A.grownBy C row) (hs : B ≤ w.heap.size) (hr : ∀ k, row = some k → B ≤ k) : Below B w C :=
  h.trans ⟨hg.os, hg.tape, hg.output, hg.size, fun k hk => hg.block k (by have := h.size; omega) (by intro e; have := hr k e.symm; omega)⟩

set_option maxRecDepth 100000 in
set_option maxHeartbeats 4000000 in
theorem copy_any (L : List Nd) (v : Value) (w : World) (hN : Nds w v L) (hnil : v = .slice none 0 0 ∨ ∃ ad cap, v = .slice (some ad) L.length cap) (hlen : L.length ≤ 2932031007317) :
    Calls Tryd.prog 15 #[v] w fun e w' => (∃ v', e = .returned v' ∧ w'.ownsRow w.heap.size 59 5 v' L.length (cellsN L)) ∧ Below w.heap.size w w' := by
  rcases hnil with rfl | ⟨ad, cap, rfl⟩
  · obtain ⟨a, c, e, hx⟩ := hN
    have hL : L = [] := by
      rcases hx with h | ⟨g, o, e2, _⟩
      · exact h
      · injection e with e1 e3 e4
        exact List.length_eq_zero_iff.1 e3.symm
    subst hL
    clear hx e
    go_enter Tryd.func15, Tryd.ntmps15
    go_wp2
    go_ret
    exact ⟨⟨_, rfl, World.ownsRow_nil _ _ _ _⟩, Below.refl _ _⟩
  · have hnews := nds_news hN
    obtain ⟨i0, hi, hi0, hi1, hi2⟩ := info_parts info41
    have hcl := cellsN_len L
    have hone := cellsN_one L
    clear hN
    go_enter Tryd.func15, Tryd.ntmps15
    go_wp2_with (at_builtin; refine wpList_append_own _ rfl _ _ 25 rfl w.heap.size 59 i0 _ 5 48 Tryd.underlying25 hi hi0 hi1 hi2 rfl (by decide) _ _ _ rfl (World.ownsRow_nil _ _ _ _) ad L.length cap (cellsN L) rfl hcl hnews hone (by unfold maxLen; omega) (by omega) (by omega) ?_; intro v' w4 hown' hgrow hnil; have hB4 := grown_belowE (Below.refl w.heap.size w) hgrow (Nat.le_refl _) (fun k hk => by cases hk))
    rw [Nat.zero_add, List.nil_append] at hown'
    refine bodyPost_ret (v := v') (by simp [results, Tryd.results15, go_sem]) rfl ⟨⟨v', rfl, hown'⟩, hB4⟩

theorem cells_ten {W : World} (xs : List Value) (t : TypeId) : ∀ j u, xs[j]? = some u → (W.alloc (.cells xs.toArray t)).cell? ((⟨W.heap.size, 0, none⟩ : Addr).add j) = some u := by
  intro j u h
  have := (Has.new W xs.toArray t rfl).2.1 j
  have e : ((⟨W.heap.size, 0, none⟩ : Addr).add j) = ⟨W.heap.size, j, none⟩ := by
    rw [Go.WideShapes.add_plain, Nat.zero_add]
  rw [e, this]
  simpa using h

/-- The two marks. -/
def mark (n : Int) : Nd := ⟨0, n, ⟨#[114, 111, 111, 109]⟩, 0, 0⟩
def full (L : List Nd) : List Nd := L ++ [mark 55, mark 56]

set_option maxRecDepth 100000 in
set_option maxHeartbeats 4000000 in
theorem roomy_any (L : List Nd) (v : Value) (w : World) (hN : Nds w v L) (hnil : v = .slice none 0 0 ∨ ∃ ad cap, v = .slice (some ad) L.length cap) (hlen : L.length ≤ 2932031007317) :
    Calls Tryd.prog 5 #[v] w fun e w' => (∃ g cap, e = .returned (.slice (some ⟨g, 0, none⟩) (L.length + 2) cap) ∧ L.length + 2 ≤ cap ∧ w'.ownsRow w.heap.size 59 5 (.slice (some ⟨g, 0, none⟩) (full L).length cap) (full L).length (cellsN (full L))) ∧ Below w.heap.size w w' := by
  have hCp := copy_any L v w hN hnil hlen
  obtain ⟨i0, hi, hi0, hi1, hi2⟩ := info_parts info41
  clear hN hnil
  go_enter Tryd.func5, Tryd.ntmps5
  go_wp2_with (first
    | (go_at_call 15; (with_reducible refine hCp.mono ?_); rintro e w1 ⟨⟨v1, rfl, hr1⟩, hb1⟩; have hz1 := hb1.size)
    | (at_builtin; refine wpList_append_own _ rfl _ _ 25 rfl w.heap.size 59 i0 _ 5 48 Tryd.underlying25 hi hi0 hi1 hi2 rfl (by decide) _ _ _ rfl (hr1.alloc _) ⟨w1.heap.size, 0, none⟩ 2 2 [.int .i64 0, .int .i32 55, .string ⟨#[114, 111, 111, 109]⟩, .int .i64 0, .int .i64 0, .int .i64 0, .int .i32 56, .string ⟨#[114, 111, 111, 109]⟩, .int .i64 0, .int .i64 0] rfl rfl (cells_ten _ _) (fun u hu => by simp only [List.mem_cons, List.not_mem_nil, or_false] at hu; rcases hu with rfl | rfl | rfl | rfl | rfl | rfl | rfl | rfl | rfl | rfl <;> rfl) (by unfold maxLen; omega) (by omega) (by simp; omega) ?_; intro v' w4 hown' hgrow hnil; have hB4 := grown_belowE (hb1.alloc hz1 _) hgrow (Nat.le_refl _) (fun k hk => (own_lt hr1 k hk).1); obtain ⟨g', cap', rfl⟩ := ownsRow_succ (k := L.length + 1) hown'))
  have hfl : (full L).length = L.length + 2 := by unfold full; simp
  have hcl : cellsN (full L) = cellsN L ++ [.int .i64 0, .int .i32 55, .string ⟨#[114, 111, 111, 109]⟩, .int .i64 0, .int .i64 0, .int .i64 0, .int .i32 56, .string ⟨#[114, 111, 111, 109]⟩, .int .i64 0, .int .i64 0] := by unfold full; rw [cellsN_append]; rfl
  have hcap : L.length + 2 ≤ cap' := by
    rcases hown'.2 with ⟨h0, _⟩ | ⟨g, cap, cur, hv, _, _, hn, _⟩
    · cases h0
    · cases hv; exact hn
  refine bodyPost_ret (v := .slice (some ⟨g', 0, none⟩) (L.length + 2) cap') (by simp [results, Tryd.results5, go_sem]) rfl ⟨⟨g', cap', rfl, hcap, ?_⟩, hB4⟩
  rw [hfl, hcl]; exact hown'

set_option maxRecDepth 100000 in
set_option maxHeartbeats 4000000 in
theorem nodes_same (L : List Nd) (v1 v2 : Value) (w : World) (h1 : Nds w v1 L) (h2 : Nds w v2 L) (hlen : L.length ≤ 2932031007319) :
    Calls Tryd.prog 12 #[v1, v2] w fun e w' => e = .returned (.bool true) ∧ ∃ n, w' = w.drewN n := by
  obtain ⟨a1, c1, rfl, h1⟩ := h1
  obtain ⟨a2, c2, rfl, h2⟩ := h2
  by_cases h0 : L = []
  · subst h0
    clear h1 h2
    go_enter Tryd.func12, Tryd.ntmps12
    go_wp2
    go_loop [5] (fun t => t = .int .i64 0) (fun _ => 0)
    case atStart => exact rfl
    case round =>
      obtain rfl := hrel
      go_wp2
      go_ret
      exact ⟨rfl, 0, rfl⟩
  · obtain ⟨g1, o1, rfl, hg1, H1⟩ := h1.resolve_left h0
    obtain ⟨g2, o2, rfl, hg2, H2⟩ := h2.resolve_left h0
    clear h0 h1 h2
    go_enter Tryd.func12, Tryd.ntmps12
    go_wp2
    go_loopw [5] (fun t wr => ∃ k q : Nat, k ≤ L.length ∧ t = .int .i64 (k : Int) ∧ wr = w.drewN q) (fun t _ => L.length - (intOf t).toNat)
    case atStart => exact ⟨0, 0, by omega, rfl, rfl⟩
    case round =>
      obtain ⟨k, q, hk, rfl, rfl⟩ := hrel
      by_cases hlt : k < L.length
      · obtain ⟨p0, p1, p2, p3, p4⟩ := H1 k hlt
        obtain ⟨r0, r1, r2, r3, r4⟩ := H2 k hlt
        have k1 : (k : Int) < (L.length : Int) := by omega
        have k0 : (0 : Int) ≤ (k : Int) := by omega
        generalize L[k].op = x0 at *
        generalize L[k].val = x1 at *
        generalize L[k].name = x2 at *
        generalize L[k].line = x3 at *
        generalize L[k].col = x4 at *
        clear H1 H2
        go_wp2
        go_quiet (fail)
        go_wp2
        go_roundw
        case rel => exact ⟨k + 1, q + nq, by omega, by go_num, rfl⟩
        case measure => simp [intOf]; omega
      · have k1 : ¬ (k : Int) < (L.length : Int) := by omega
        clear H1 H2
        go_wp2
        go_ret
        exact ⟨rfl, q, rfl⟩
end Go.Proofs.YthjdflcakngpiaaDoor
