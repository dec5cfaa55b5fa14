import Derived.Laws.OwnMore
import Derived.Laws.AppendOwnNone
import Derived.Test.YtahheagfgfpdmaaWmF
import Derived.Test.YtahheagfgfpdmaaWmD
import Derived.Test.YtahheagfgfpdmaaWmE
namespace Go.Proofs.Ytahheagfgfpdmaa
open Go.RowKit
set_option linter.unusedVariables false
set_option linter.unusedSimpArgs false

set_option maxRecDepth 100000 in
set_option maxHeartbeats 2000000 in
theorem addWord_any (base : Nat) (L : List Int) (l : Nat) (v : Value) (x : Int) (w : World) (hL : L.length = l) (hx0 : 0 ≤ x) (hx1 : x < 4294967296) (hO : w.ownsRow base 5 1 v l (L.map bv)) (hl : l ≤ 100) (hb : base ≤ w.heap.size) :
    Calls Try.prog 18 #[v, .int .u32 x] w fun e w' => (∃ g cap, e = .returned (.slice (some ⟨g, 0, none⟩) (l + 4) cap) ∧ w'.ownsRow base 5 1 (.slice (some ⟨g, 0, none⟩) (l + 4) cap) (l + 4) ((L ++ w4 x).map bv)) ∧ Below base w w' := by
  obtain ⟨ti, hi, hx⟩ := Option.map_eq_some_iff.1 infoB
  have hi0 : ti.zero = some (.int .u8 0) := congrArg (·.1) hx
  have hi1 : ti.size = 1 := congrArg (·.2.1) hx
  have hi2 : ti.bytes = 1 := congrArg (·.2.2) hx
  have e4 : (L ++ w4 x).map bv = L.map bv ++ [.int .u8 (x % 256), .int .u8 (x / 256 % 256), .int .u8 (x / 65536 % 256), .int .u8 (x / 16777216)] := by
    rw [List.map_append]
    simp only [w4, bv, List.map_cons, List.map_nil]
    rw [show x / 16777216 % 256 = x / 16777216 by omega]
  have hsz : base ≤ (w.alloc (.cells #[.int .u8 (x % 256), .int .u8 (x / 256 % 256), .int .u8 (x / 65536 % 256), .int .u8 (x / 16777216)] 5)).heap.size := Nat.le_trans hb (belN1).size
  go_enter Try.func18, Try.ntmps18
  go_wp2_with (at_builtin; (refine wpList_append_mine _ rfl _ _ 23 rfl base 5 ti _ 1 1 Try.underlying23 hi hi0 hi1 hi2 rfl (by decide) v l (L.map bv) rfl (own_bel hO belN1) ⟨w.heap.size, 0, none⟩ 4 4 [.int .u8 (x % 256), .int .u8 (x / 256 % 256), .int .u8 (x / 65536 % 256), .int .u8 (x / 16777216)] rfl rfl (cells_ten (W := w) [.int .u8 (x % 256), .int .u8 (x / 256 % 256), .int .u8 (x / 65536 % 256), .int .u8 (x / 16777216)] 5) (by intro u hu; simp at hu; rcases hu with rfl | rfl | rfl | rfl <;> rfl) (by decide) (by unfold maxLen; omega) (by omega) hsz ?_); intro g' cap' w' p1 p2 p3 p4 p5)
  go_ret
  exact ⟨⟨g', cap', rfl, by rw [e4]; exact p1⟩, grown_bel (B := base) ((Below.refl _ _).alloc hb _) p2 hb (fun q hq => (own_lt hO q hq).1)⟩
theorem run_append_noneC {P : Program} {w : World} (base : Nat) (t ty e : TypeId) (i : TypeInfo) (size c : Nat) (ht : P.underlying t = some (.slice e)) (hi : P.info? e = some i)
    (v : Value) (n : Nat) (xs : List Value) (hown : w.ownsRow base e size v n xs) : (Builtin.append_ #[t, t] ty #[v, .slice none 0 c]).run P w = .ok v w := by
  rcases hown.2 with ⟨rfl, rfl⟩ | ⟨g, cap, cur, rfl, _, _, hnc, _⟩
  · simp [Builtin.append_, run_underlying ht, sizeOf, typeInfo, hi, Builtin.lenOf, Builtin.firstCells]
  · simp [Builtin.append_, run_underlying ht, sizeOf, typeInfo, hi, Builtin.lenOf, Builtin.firstCells, hnc, storeCells]
theorem wpList_append_noneC {P : Program} {w : World} {ops : Array Oper} {rest : List Oper} {o : Oper} {a : Act} {Q : Exit → Act → World → Prop} (hgd : o.guard = none) (s x : Operand) (t : TypeId)
    (ho : o.op = .call { callee := .builtin .append, args := #[s, x], argTypes := #[t, t] })
    (base : Nat) (e : TypeId) (i : TypeInfo) (size c : Nat) (ht : P.underlying t = some (.slice e)) (hi : P.info? e = some i)
    (v : Value) (n : Nat) (xs : List Value) (hs : a.eval s = v) (hown : w.ownsRow base e size v n xs) (hx : a.eval x = .slice none 0 c)
    (h : wpList P ops Q rest (a.put o.dst v) w) : wpList P ops Q (o :: rest) a w := by
  refine wpList_plain hgd fun K hK => ?_
  have hrun := run_append_noneC (P := P) (w := w) base t o.type e i size c ht hi v n xs hown
  unfold Oper.wp
  simp [execOp, ho, resolve, invoke, builtin, hs, hx, hrun, Result.andThen]
  exact hK _ _ h
/-- Bytes behind a row of the call's own. -/
theorem wpList_append_by {w : World} {ops : Array Oper} {rest : List Oper} {o : Oper} {a : Act} {Q : Exit → Act → World → Prop} (hgd : o.guard = none) (s x : Operand)
    (ho : o.op = .call { callee := .builtin .append, args := #[s, x], argTypes := #[23, 23] })
    (base n g cap : Nat) (L : List Int) (hs : a.eval s = .slice (some ⟨g, 0, none⟩) n cap) (hown : w.ownsRow base 5 1 (.slice (some ⟨g, 0, none⟩) n cap) n (L.map bv)) (S : Nat → Prop) (va : Option Addr) (l c : Nat) (D : List Int) (hD : D.length = l) (hx : a.eval x = .slice va l c) (hB : By S w (.slice va l c) D) (hl : n + l ≤ 140737488355328) (hp : 0 < n) (hbase : base ≤ w.heap.size)
    (h : ∀ g' cap' w', w'.ownsRow base 5 1 (.slice (some ⟨g', 0, none⟩) (n + l) cap') (n + l) ((L ++ D).map bv) → w.grownBy w' (some g) → wpList Try.prog ops Q rest (a.put o.dst (.slice (some ⟨g', 0, none⟩) (n + l) cap')) w') : wpList Try.prog ops Q (o :: rest) a w := by
  subst hD
  obtain ⟨ti, hi, hx⟩ := Option.map_eq_some_iff.1 infoB
  have hi0 : ti.zero = some (.int .u8 0) := congrArg (·.1) hx
  have hi1 : ti.size = 1 := congrArg (·.2.1) hx
  have hi2 : ti.bytes = 1 := congrArg (·.2.2) hx
  obtain ⟨hs1, hs2, -⟩ := hB.src
  cases va with
  | none =>
    have h0 := hs2 rfl
    obtain rfl : D = [] := List.eq_nil_of_length_eq_zero h0
    exact wpList_append_noneC hgd s x 23 ho base 5 ti 1 c Try.underlying23 hi _ n _ hs hown hx (h g cap w (by simpa using hown) ⟨rfl, rfl, rfl, Nat.le_refl _, fun _ _ _ => rfl⟩)
  | some ad =>
    refine wpList_append_own _ hgd s x 23 ho base 5 ti _ 1 1 Try.underlying23 hi hi0 hi1 hi2 rfl (by decide) _ n (L.map bv) hs hown ad D.length c (D.map bv) hx (by simp) (hs1 ad rfl) (bv_one D) (by unfold maxLen; omega) (by omega) hbase ?_
    intro v' w' o1 o2 o3
    obtain ⟨g', c', rfl, -, -, -⟩ := own_block o1 (by omega)
    exact h g' c' w' (by rw [List.map_append]; exact o1) o2
theorem own_two (w : World) (k s : Int) : (w.alloc (.cells #[.int .u8 k, .int .u8 s] 5)).ownsRow w.heap.size 5 1 (.slice (some ⟨w.heap.size, 0, none⟩) 2 2) 2 ([k, s].map bv) := own_lit w [k, s] (by simp)
theorem Has.belB {B : Nat} {w w' : World} {b : Nat} {vs : Array Value} (h : Has w b vs) (hb : Below B w w') (hB : b < B) : Has w' b vs := h.blk hb.size (hb.block b hB)
def pkE (k s n u : Int) (l : Nat) : Int := if fmB k s n u l = true then 0 else 173
def pkL (k s n u : Int) (D : List Int) : List Int := if fmB k s n u D.length = true then [k, s] ++ w4 n ++ w4 u ++ D else []
theorem fm_spec {k s n u : Int} {l : Nat} (h : fmB k s n u l = true) : (0 ≤ k ∧ k ≤ 12) ∧ (0 ≤ s ∧ s ≤ 255) ∧ l ≤ 246 := by
  unfold fmB at h
  simp only [Bool.and_eq_true, decide_eq_true_eq] at h
  obtain ⟨⟨⟨⟨⟨⟨h1, h2⟩, h3⟩, -⟩, -⟩, -⟩, h4⟩ := h
  refine ⟨?_, ⟨h2, h3⟩, ?_⟩
  · unfold kOk at h1
    simp only [Bool.or_eq_true, decide_eq_true_eq] at h1
    omega
  · split at h4
    · simp only [Bool.and_eq_true, decide_eq_true_eq] at h4
      omega
    · simp only [decide_eq_true_eq] at h4
      omega
set_option maxRecDepth 100000 in
set_option maxHeartbeats 2000000 in
theorem pack5 (S : Nat → Prop) (k s n u : Int) (D : List Int) (l c : Nat) (va : Option Addr) (w : World) (hD : D.length = l) (hB : By S w (.slice va l c) D) (n0 : 0 ≤ n) (n1 : n < 4294967296) (u0 : 0 ≤ u) (u1 : u < 4294967296) (hl : l ≤ 140737488355000) : Calls Try.prog 5 #[.agg #[.int .i64 k, .int .i64 s, .int .u32 n, .int .u32 u, .slice va l c]] w fun e w' => (∃ v, e = .returned (.tuple #[v, .int .i64 (pkE k s n u l)]) ∧ Ob w.heap.size w' v (pkL k s n u D)) ∧ Below w.heap.size w w' := by
  cases hf : fmB k s n u l with
  | false =>
    have hE : pkE k s n u l = 173 := by simp [pkE, hf]
    have hP : pkL k s n u D = [] := by simp [pkL, hD, hf]
    rw [hE, hP]
    have hfm : ∀ X : World, Calls Try.prog 15 #[.agg #[.int .i64 k, .int .i64 s, .int .u32 n, .int .u32 u, .slice va l c]] X fun e w' => e = .returned (.bool false) ∧ Below X.heap.size X w' := fun X => by have := rfm_any k s n u l c va X (by omega); rwa [hf] at this
    go_enter Try.func5, Try.ntmps5
    go_wp2_with (go_at_call 15; (with_reducible refine Calls.mono (hfm _) ?_); rintro e w1 ⟨rfl, hb1⟩)
    go_ret2
    exact ⟨⟨_, rfl, .inl ⟨rfl, rfl⟩⟩, (belN1 (w := w)).trans (hb1.mono (by simp))⟩
  | true =>
    have hE : pkE k s n u l = 0 := by simp [pkE, hf]
    have hP : pkL k s n u D = [k, s] ++ w4 n ++ w4 u ++ D := by simp [pkL, hD, hf]
    rw [hE, hP]
    obtain ⟨⟨k0, k1⟩, ⟨s0, s1⟩, l1⟩ := fm_spec hf
    have kw : IntKind.u8.wrap k = k := wrap8 _ (by omega)
    have sw : IntKind.u8.wrap s = s := wrap8 _ (by omega)
    have km : k % 256 = k := by omega
    have sm : s % 256 = s := by omega
    have hfm : ∀ X : World, Calls Try.prog 15 #[.agg #[.int .i64 k, .int .i64 s, .int .u32 n, .int .u32 u, .slice va l c]] X fun e w' => e = .returned (.bool true) ∧ Below X.heap.size X w' := fun X => by have := rfm_any k s n u l c va X (by omega); rwa [hf] at this
    have hD' : Hid (D.length = l) := hD
    clear hD
    go_enter Try.func5, Try.ntmps5
    go_wp2_with (first | (go_at_call 15; (with_reducible refine Calls.mono (hfm _) ?_); rintro e w1 ⟨rfl, hb1⟩; have hm := Has.below (Has.new w #[.int .i64 k, .int .i64 s, .int .u32 n, .int .u32 u, .slice va l c] 25 rfl) hb1; have m0 := hm.2.1 0; have m1 := hm.2.1 1; have m2 := hm.2.1 2; have m3 := hm.2.1 3; have m4 := hm.2.1 4; have z1 : w.heap.size < w1.heap.size := Nat.lt_of_lt_of_le (by simp) hb1.size) | (have hq := four_any w1.heap.size [k, s] 2 (.slice (some ⟨w1.heap.size, 0, none⟩) 2 2) n (w1.alloc (.cells #[.int .u8 k, .int .u8 s] 5)) rfl n0 n1 (own_two w1 k s) (by decide) (by simp); go_at_call 16; (with_reducible refine Calls.mono hq ?_); clear hq; rintro e w2 ⟨⟨g2, c2, rfl, o2⟩, hb2⟩; have hb2' : Below w1.heap.size w1 w2 := (((Below.refl w1.heap.size w1).alloc (Nat.le_refl _) _)).trans hb2; have hm2 := hm.belB hb2' z1; have a0 := hm2.2.1 0; have a1 := hm2.2.1 1; have a2 := hm2.2.1 2; have a3 := hm2.2.1 3; have a4 := hm2.2.1 4) | (have hq := four_any w1.heap.size ([k, s] ++ w4 n) 6 (.slice (some ⟨g2, 0, none⟩) 6 c2) u w2 (by simp [w4]) u0 u1 o2 (by decide) hb2'.size; go_at_call 16; (with_reducible refine Calls.mono hq ?_); clear hq; rintro e w3 ⟨⟨g3, c3, rfl, o3⟩, hb3⟩; have hb3' : Below w1.heap.size w1 w3 := hb2'.trans hb3; have hm3 := hm.belB hb3' z1; have d0 := hm3.2.1 0; have d1 := hm3.2.1 1; have d2 := hm3.2.1 2; have d3 := hm3.2.1 3; have d4 := hm3.2.1 4; have hbw : Below w.heap.size w w3 := ((belN1 (w := w)).trans (hb1.mono (by simp))).trans (hb3'.mono (Nat.le_of_lt z1))) | (at_builtin; (refine wpList_append_by rfl _ _ rfl w1.heap.size 10 g3 c3 ([k, s] ++ w4 n ++ w4 u) rfl o3 S va l c D hD'.out rfl (hB.keep (Mv.below hbw)) (by omega) (by decide) hb3'.size ?_); intro g4 c4 w4' o4 hg4))
    go_ret2
    have hlen : ([k, s] ++ w4 n ++ w4 u ++ D).length = 10 + l := by simp [w4, hD'.out]; omega
    refine ⟨⟨.slice (some ⟨g4, 0, none⟩) (10 + l) c4, rfl, ?_⟩, grown_bel (B := w.heap.size) hbw hg4 (Nat.le_refl _) (fun q hq => by injection hq with hq; subst hq; have := (own_lt o3 g3 rfl).1; omega)⟩
    have hgl := (own_lt o4 g4 rfl).1
    show Ob _ _ _ ([k, s] ++ w4 n ++ w4 u ++ D)
    generalize [k, s] ++ w4 n ++ w4 u ++ D = P at *
    rw [← hlen] at o4 ⊢
    exact Ob.own (B := w.heap.size) o4 (by omega) (by omega)
end Go.Proofs.Ytahheagfgfpdmaa
