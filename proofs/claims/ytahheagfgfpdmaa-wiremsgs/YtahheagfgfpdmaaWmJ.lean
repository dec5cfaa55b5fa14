import Derived.Test.YtahheagfgfpdmaaWmI
namespace Go.Proofs.Ytahheagfgfpdmaa
open Go.RowKit
set_option linter.unusedVariables false
set_option linter.unusedSimpArgs false


/-- The message that bytes are. -/
def gd (L : List Int) (i : Nat) : Int := L.getD i 0
def wd (L : List Int) (i : Nat) : Int := gd L i + 256 * gd L (i + 1) + 65536 * gd L (i + 2) + 16777216 * gd L (i + 3)
def uOk (L : List Int) : Bool := decide (10 ≤ L.length) && fmB (gd L 0) (gd L 1) (wd L 2) (wd L 6) (L.length - 10)
def uX (L : List Int) (x : Int) : Int := if uOk L = true then x else 0
def uE (L : List Int) : Int := if uOk L = true then 0 else 173
def uD (L : List Int) : List Int := if uOk L = true then L.drop 10 else []
def uV (L : List Int) (v : Value) : Value := .tuple #[.agg #[.int .i64 (uX L (gd L 0)), .int .i64 (uX L (gd L 1)), .int .u32 (uX L (wd L 2)), .int .u32 (uX L (wd L 6)), v], .int .i64 (uE L)]
theorem gd_in {L : List Int} (hr : ∀ x ∈ L, 0 ≤ x ∧ x ≤ 255) (i : Nat) : 0 ≤ gd L i ∧ gd L i ≤ 255 := by
  unfold gd List.getD
  by_cases h : i < L.length
  · rw [List.getElem?_eq_getElem h]; exact hr _ (List.getElem_mem h)
  · rw [List.getElem?_eq_none (by omega)]; simp
theorem wd_in {L : List Int} (hr : ∀ x ∈ L, 0 ≤ x ∧ x ≤ 255) (i : Nat) : 0 ≤ wd L i ∧ wd L i < 4294967296 := by
  unfold wd
  have := gd_in hr i
  have := gd_in hr (i + 1)
  have := gd_in hr (i + 2)
  have := gd_in hr (i + 3)
  omega
theorem By.get {S : Nat → Prop} {w : World} {va : Option Addr} {l c : Nat} {L : List Int} (h : By S w (.slice va l c) L) (hL : L.length = l) (hp : 0 < l) : ∃ g o, va = some ⟨g, o, none⟩ ∧ l ≤ c ∧ ∀ X : World, Below w.heap.size w X → ∀ i, i < l → X.cell? ⟨g, o + i, none⟩ = some (.int .u8 (gd L i)) := by
  obtain ⟨g, o, rfl, -, -, -⟩ := h.at (k := 0) (by omega)
  refine ⟨g, o, rfl, ?_, fun X hX i hi => ?_⟩
  · obtain ⟨a, cap, e, e1, -⟩ := h
    injection e with _ _ e
    omega
  · obtain ⟨g', o', e, -, -, x⟩ := (h.keep (Mv.below hX)).at (k := i) (by omega)
    injection e with e
    injection e with e e2
    subst e
    subst e2
    rw [x]
    simp [gd, List.getD, hL, hi]
def tlA (g o c : Nat) : Option Addr := if c = 10 then some ⟨g, o, none⟩ else some ⟨g, o + 10, none⟩
theorem slice_tl (g o l c : Nat) (h : 10 ≤ l) (hc : l ≤ c) (W : World) : (Instr.slice 23 (.slice (some ⟨g, o, none⟩) l c) (some (.int .i64 10)) none none).run Try.prog W = .ok (.slice (tlA g o c) (l - 10) (c - 10)) W := by
  have ht' : Try.prog.underlying 23 = some (.slice (Try.prog.elem 23)) := by simp [Program.elem, Try.underlying23]
  have he : Try.prog.elem 23 = 5 := by simp [Program.elem, Try.underlying23]
  rw [run_slice_l W 23 _ _ _ ht' .i64 _ (by omega) (by omega), he, size5 W]
  simp [Result.andThen, sliced, Addr.add, tlA]
theorem slice_at (g o l c i : Nat) (h : i ≤ l) (hc : l ≤ c) (hi : i < c) (W : World) : (Instr.slice 23 (.slice (some ⟨g, o, none⟩) l c) (some (.int .i64 (i : Int))) none none).run Try.prog W = .ok (.slice (some ⟨g, o + i, none⟩) (l - i) (c - i)) W := by
  have ht' : Try.prog.underlying 23 = some (.slice (Try.prog.elem 23)) := by simp [Program.elem, Try.underlying23]
  have he : Try.prog.elem 23 = 5 := by simp [Program.elem, Try.underlying23]
  rw [run_slice_l W 23 _ _ _ ht' .i64 _ (by omega) (by omega), he, size5 W]
  have hne : ¬ c = i := by omega
  simp [Result.andThen, sliced, Addr.add, hne]
theorem By.tail {S : Nat → Prop} {w : World} {g o l c : Nat} {L : List Int} (h : By S w (.slice (some ⟨g, o, none⟩) l c) L) (hL : L.length = l) (h10 : 10 ≤ l) : By S w (.slice (tlA g o c) (l - 10) (c - 10)) (L.drop 10) := by
  obtain ⟨a, cap, e, h1, h2, -, h4⟩ := h
  injection e with e _ e3
  subst e
  subst e3
  have hd : (L.drop 10).length = l - 10 := by rw [List.length_drop, hL]
  refine ⟨tlA g o c, c - 10, by rw [hd], by omega, by omega, fun e => ?_, ?_⟩
  · unfold tlA at e; split at e <;> cases e
  · by_cases hc : c = 10
    · exact .inl (List.eq_nil_of_length_eq_zero (by omega))
    · right
      obtain ⟨g', o', e2, hS, hg, hx⟩ := h4.resolve_left (by intro e; rw [e] at hL; simp at hL; omega)
      injection e2 with e2
      injection e2 with e2 e4
      subst e2
      subst e4
      refine ⟨g, o + 10, by simp [tlA, hc], hS, hg, fun i hi => ?_⟩
      rw [Nat.add_assoc, hx (10 + i) (by omega), List.getElem_drop]
/-- What the reference's loop has added up: bytes a to d, the high one first. -/
def ac (a b c d : Int) : Nat → Int
  | 0 => 0
  | 1 => d
  | 2 => d * 256 + c
  | 3 => (d * 256 + c) * 256 + b
  | _ => ((d * 256 + c) * 256 + b) * 256 + a
def acL (L : List Int) (i k : Nat) : Int := ac (gd L i) (gd L (i + 1)) (gd L (i + 2)) (gd L (i + 3)) k
theorem acL_next (L : List Int) (i j : Nat) (h2 : 2 ≤ j) (h5 : j ≤ 5) : acL L i (5 - j) * 256 + gd L (i + j - 2) = acL L i (5 - (j - 1)) := by
  rcases (by omega : j = 2 ∨ j = 3 ∨ j = 4 ∨ j = 5) with rfl | rfl | rfl | rfl <;> simp [acL, ac]
theorem acL_in {L : List Int} (hr : ∀ x ∈ L, 0 ≤ x ∧ x ≤ 255) (i k : Nat) (hk : k ≤ 4) : 0 ≤ acL L i k ∧ acL L i k < 4294967296 ∧ (k < 4 → acL L i k < 16777216) := by
  have := gd_in hr i
  have := gd_in hr (i + 1)
  have := gd_in hr (i + 2)
  have := gd_in hr (i + 3)
  rcases (by omega : k = 0 ∨ k = 1 ∨ k = 2 ∨ k = 3 ∨ k = 4) with rfl | rfl | rfl | rfl | rfl <;> (simp only [acL, ac]; omega)
theorem acL_end (L : List Int) (i : Nat) : acL L i 4 = wd L i := by
  simp only [acL, ac, wd]; omega

section
variable {P : Program} {md : Region.Mode} {ops : Array Oper} {Q : Exit → Act → World → Prop} {S : World → Prop} {E : Nat}
theorem wpAnyE_one {i : Nat} {o : Oper} {fuel : Nat} {listed : Array Bool} {a : Act} {w : World} (hr : Region.ready md ops listed = [i]) (ho : ops[i]? = some o)
    (hw : Region.wanted o (yielded ops a.tmps) = true) (h : ∀ K : Act → World → Prop, Hid (∀ a' w', S w' → (S w' → wpAnyE P md ops Q S E fuel (listed.setIfInBounds i true) a' w') → K a' w') → Oper.wp P o a w K Q) : wpAnyE P md ops Q S E (fuel + 1) listed a w := by
  refine ⟨fun h0 => (by rw [hr] at h0; cases h0), fun j hj => ?_⟩
  rw [hr] at hj
  obtain rfl : j = i := by simpa using hj
  have hst := h (fun a' w' => (j ≠ E → S w') ∧ wpAnyE P md ops Q S E fuel (listed.setIfInBounds j true) a' w') (fun a' w' hS hq => ⟨fun _ => hS, hq hS⟩)
  unfold wpOp
  rw [ho]
  dsimp only
  rw [if_pos hw]
  exact .inl hst
theorem wp_copy {w : World} {o : Oper} {a : Act} {K : Act → World → Prop} (s x : Operand) (t : TypeId)
    (ho : o.op = .call { callee := .builtin .append, args := #[s, x], argTypes := #[t, t] })
    (e : TypeId) (i : TypeInfo) (z : Value) (size bytes : Nat) (ht : P.underlying t = some (.slice e)) (hi : P.info? e = some i) (hz : i.zero = some z)
    (hsize : i.size = size) (hby : i.bytes = bytes) (hzs : z.cells.size = size) (hsz : 0 < size) (va : Option Addr) (m c : Nat) (news : List Value) (hs : a.eval s = .slice none 0 0) (hx : a.eval x = .slice va m c) (hl : news.length = m * size)
    (hnews : ∀ ad, va = some ad → ∀ j u, news[j]? = some u → w.cell? (ad.add j) = some u) (h1 : ∀ u ∈ news, u.oneCell' = true) (hva : va = none → m = 0) (h63 : m ≤ maxLen) (hbytes : m * bytes ≤ 140737488355328)
    (h : ∀ a' c' w', w'.ownsRow w.heap.size e size (.slice a' m c') m news → Below w.heap.size w w' → K (a.put o.dst (.slice a' m c')) w') : Oper.wp P o a w K Q := by
  obtain ⟨a', c', w', hr, h2, h3⟩ := run_copy (P := P) w t o.type e i z size bytes ht hi hz hsize hby hzs hsz va m c news hl hnews h1 hva h63 hbytes
  unfold Oper.wp execOp
  simp only [ho, resolve, invoke, builtin, Sem.run_bind, Sem.run_pure, Result.andThen_ok, List.map_toArray, List.map_cons, List.map_nil, hs, hx, hr]
  exact h a' c' w' h2 h3
end
theorem By.srcN {S : Nat → Prop} {w : World} {va : Option Addr} {n c : Nat} {L : List Int} (hn : L.length = n) (h : By S w (.slice va n c) L) : (∀ ad, va = some ad → ∀ j u, (L.map bv)[j]? = some u → w.cell? (ad.add j) = some u) ∧ (va = none → n = 0) ∧ n ≤ 140737488355328 := by
  subst hn; exact h.src
theorem Ob.of_rowN {w : World} {base n : Nat} {v : Value} {L : List Int} (hn : L.length = n) (h : w.ownsRow base 5 1 v n (L.map bv)) (hl : n ≤ 140737488355328) : Ob base w v L := by
  subst hn; exact Ob.of_row h hl
theorem only5 {w : World} {g : Nat} {x0 x1 x2 x3 x4 : Value} : Only (fun q => q = g) w (((((w.setCell ⟨g, 0, none⟩ x0).setCell ⟨g, 1, none⟩ x1).setCell ⟨g, 2, none⟩ x2).setCell ⟨g, 3, none⟩ x3).setCell ⟨g, 4, none⟩ x4) := (((((Only.refl (fun q => q = g) w).set (b := g) (i := 0) rfl x0).set (b := g) (i := 1) rfl x1).set (b := g) (i := 2) rfl x2).set (b := g) (i := 3) rfl x3).set (b := g) (i := 4) rfl x4
theorem belN2 {w : World} {o1 o2 : Obj} : Below w.heap.size w ((w.alloc o1).alloc o2) := (belN1).alloc (by simp) _
end Go.Proofs.Ytahheagfgfpdmaa
