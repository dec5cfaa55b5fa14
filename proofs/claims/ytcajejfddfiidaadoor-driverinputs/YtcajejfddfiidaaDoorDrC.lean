import Derived.Test.YtcajejfddfiidaaDoorDrA
import Derived.Test.YtcajejfddfiidaaDoorTrE
import Derived.Deep.CutRange
import Derived.Deep.CutBlock
namespace Go.Proofs.YtcajejfddfiidaaDoor
open Go.RowKit
set_option linter.unusedVariables false
set_option linter.unusedSimpArgs false

theorem upF_ge (d : ByteArray) (c : UInt8) : ∀ (m i : Nat), d.size - i ≤ m → i ≤ upF d c i := by
  intro m
  induction m with
  | zero => intro i h; rw [upF_end d c i (by omega)]; exact Nat.le_refl _
  | succ m ih =>
    intro i h
    by_cases hi : i < d.size
    · by_cases e : d[i] = c
      · rw [upF_hit d c i hi e]; exact Nat.le_refl _
      · rw [upF_next d c i hi e]; have := ih (i + 1) (by omega); omega
    · rw [upF_end d c i hi]; exact Nat.le_refl _
theorem upF_le (d : ByteArray) (c : UInt8) : ∀ (m i : Nat), d.size - i ≤ m → i ≤ d.size → upF d c i ≤ d.size := by
  intro m
  induction m with
  | zero => intro i h h2; rw [upF_end d c i (by omega)]; exact h2
  | succ m ih =>
    intro i h h2
    by_cases hi : i < d.size
    · by_cases e : d[i] = c
      · rw [upF_hit d c i hi e]; exact h2
      · rw [upF_next d c i hi e]; exact ih (i + 1) (by omega) (by omega)
    · rw [upF_end d c i hi]; exact h2
theorem own_blockR {w : World} {base e size n : Nat} {v : Value} {xs : List Value} (h : w.ownsRow base e size v n xs) (hn : 0 < n) : ∃ g cap, v = .slice (some ⟨g, 0, none⟩) n cap ∧ n ≤ cap ∧ base ≤ g ∧ g < w.heap.size := by
  rcases h.2 with ⟨_, h0⟩ | ⟨g, cap, cur, h1, h2, h3, h4⟩
  · omega
  · exact ⟨g, cap, h1, h4.1, h2, (Array.getElem?_eq_some_iff.1 h3).1⟩
theorem own_reads {w : World} {base e size n : Nat} {v : Value} {xs : List Value} (h : w.ownsRow base e size v n xs) {g : Nat} (hg : v.ownBlock = some g) : ∀ j u, xs[j]? = some u → w.cell? ⟨g, j, none⟩ = some u := by
  intro j u hu
  rcases h.2 with ⟨h0, _⟩ | ⟨g', cap, cur, h1, h2, h3, h4⟩
  · rw [h0] at hg; cases hg
  · rw [h1] at hg; cases hg
    subst h1
    have hj : j < n * size := by rw [← h.1]; exact (List.getElem?_eq_some_iff.1 hu).1
    rw [h.cellAt _ hj]; exact hu

/-- An append to a row of the call's own: in place, or in a new block; the row itself reads as before. -/
theorem wpList_append_mine {P : Program} (w : World) {ops : Array Oper} {rest : List Oper} {o : Oper} {a : Act} {Q : Exit → Act → World → Prop}
    (hg : o.guard = none) (s x : Operand) (t : TypeId) (hop : o.op = Op.call { callee := Callee.builtin Builtin.append, args := #[s, x], argTypes := #[t, t] })
    (base : Nat) (e : TypeId) (i : TypeInfo) (z : Value) (size bytes : Nat) (h1 : P.underlying t = some (.slice e)) (h2 : P.info? e = some i) (h3 : i.zero = some z) (h4 : i.size = size) (h5 : i.bytes = bytes) (h6 : z.cells.size = size) (h7 : 0 < size)
    (v : Value) (n : Nat) (xs : List Value) (hs : a.eval s = v) (hown : w.ownsRow base e size v n xs)
    (ad : Addr) (m c : Nat) (news : List Value) (hx : a.eval x = .slice (some ad) m c) (hn : news.length = m * size) (hc : ∀ j u, news[j]? = some u → w.cell? (ad.add j) = some u) (h1c : ∀ u ∈ news, u.oneCell' = true)
    (hm : 0 < m) (b1 : n + m ≤ maxLen) (b2 : (n + m) * bytes ≤ 140737488355328) (hbase : base ≤ w.heap.size)
    (hK : ∀ g' cap' w', w'.ownsRow base e size (.slice (some ⟨g', 0, none⟩) (n + m) cap') (n + m) (xs ++ news) → w.grownBy w' v.ownBlock → (v.ownBlock = some g' ∨ w.heap.size ≤ g') → (∀ g, v.ownBlock = some g → ∀ j u, xs[j]? = some u → w'.cell? ⟨g, j, none⟩ = some u) → n + m ≤ cap' → wpList P ops Q rest (a.put o.dst (.slice (some ⟨g', 0, none⟩) (n + m) cap')) w') :
    wpList P ops Q (o :: rest) a w := by
  have grows : ∀ (ao : Option Addr) (cap : Nat), v = .slice ao n cap → (ao = none → n = 0 ∧ cap = 0) → (∀ b, ao = some b → ∃ g, b = ⟨g, 0, none⟩) → cap < n + m → wpList P ops Q (o :: rest) a w := by
    intro ao cap hv hnone hb0 hfull
    refine wpList_append_grows w hg s x t hop e i z size bytes h1 h2 h3 h4 h5 h6 h7 ao n cap xs (hs.trans hv) hnone hown.1 ?_ ad m c news hx hn hc h1c hfull b1 b2 ?_
    · intro b hb j u hu
      obtain ⟨g, rfl⟩ := hb0 b hb
      rw [Go.WideShapes.add_plain, Nat.zero_add]
      exact own_reads hown (by rw [hv, hb]; rfl) j u hu
    · intro v' w' hown' hgrow
      obtain ⟨g', cap', rfl, hcap, hg', _⟩ := own_blockR hown' (by omega)
      refine hK g' cap' w' (own_mono hown' hbase) ⟨hgrow.os, hgrow.tape, hgrow.output, hgrow.size, fun k hk _ => hgrow.block k hk (by simp)⟩ (.inr hg') ?_ hcap
      intro g hgv j u hu
      have hlt := (own_lt hown g hgv).2
      rw [← own_reads hown hgv j u hu]
      exact World.cell?_of_block (hgrow.block g hlt (by simp))
  rcases hown.2 with ⟨hv, h0⟩ | ⟨g, cap, cur, hv, hbg, hcur, hnc, hrest⟩
  · exact grows none 0 (by rw [hv, h0]) (fun _ => ⟨h0, rfl⟩) (fun b hb => by cases hb) (by omega)
  · by_cases hr : n + m ≤ cap
    · subst hv
      refine wpList_append_fits w hg s x t hop base e i size h1 h2 h4 g n cap xs hs hown ad m c news hx hn hc h1c hr ?_
      intro w' hown' hgrow
      refine hK g cap w' hown' hgrow (.inl rfl) ?_ hr
      intro g1 hg1 j u hu
      cases hg1
      refine own_reads hown' rfl j u ?_
      rw [List.getElem?_append_left (List.getElem?_eq_some_iff.1 hu).1]; exact hu
    · exact grows (some ⟨g, 0, none⟩) cap hv (fun h => by cases h) (fun b hb => by cases hb; exact ⟨g, rfl⟩) (by omega)

theorem grown_bel {B : Nat} {w A C : World} {row : Option Nat} (h : Below B w A) (hg : A.grownBy C row) (hs : B ≤ w.heap.size) (hr : ∀ k, row = some k → B ≤ k) : Below B w C :=
  h.trans ⟨hg.os, hg.tape, hg.output, hg.size, fun k hk => hg.block k (by have := h.size; omega) (by intro e; have := hr k e.symm; omega)⟩

/-- Cells written one behind the other. -/
def gTo (d : ByteArray) (i : Nat) : Int := if upF d 45 i < upF d 32 i then (digF d (upF d 45 i + 1)).1 else (digF d i).1
def gHd (d : ByteArray) (Q R : Nat) : ByteArray := if (d.extract (Q + 1) R).toList == [46] then ⟨#[]⟩ else d.extract (Q + 1) R
def gSg (d : ByteArray) (R E : Nat) : Int := if (d.extract (R + 1) E).toList == [45] then -1 else (digF d (R + 1)).1
/-- One line guessed. -/
def gsS (d : ByteArray) (i : Nat) (L : List En) : Option (List En) :=
  if upF d 10 i ≤ upF d 32 i then none else if upF d 10 i ≤ upF d 32 (upF d 32 i + 1) then none else if gTo d i < (L.length : Int) ∨ 65536 ≤ gTo d i then none
  else some (L ++ List.replicate ((gTo d i).toNat + 1 - L.length) ⟨gHd d (upF d 32 i) (upF d 32 (upF d 32 i + 1)), gSg d (upF d 32 (upF d 32 i + 1)) (upF d 10 i)⟩)
/-- The lines guessed. -/
def gsF (d : ByteArray) : Nat → Nat → List En → Option (List En)
  | 0, _, L => some L
  | m + 1, i, L => if i < d.size then (gsS d i L).bind (gsF d m (upF d 10 i + 1)) else some L
theorem gsF_end (d : ByteArray) (m i : Nat) (L : List En) (h : ¬ i < d.size) : gsF d m i L = some L := by
  cases m with
  | zero => rfl
  | succ m => unfold gsF; rw [if_neg h]
theorem gsF_at (d : ByteArray) (m i : Nat) (L : List En) (h : i < d.size) : gsF d (m + 1) i L = (gsS d i L).bind (gsF d m (upF d 10 i + 1)) := by
  conv => lhs; unfold gsF
  rw [if_pos h]
def rtR (d : ByteArray) : Option (List En) := (gsF d (d.size + 1) 0 []).bind fun L => if trA L = some d then some L else none
/-- What Retrace answers. -/
def RtP (o : Option (List En)) (w : World) (e : Ending) (w' : World) : Prop :=
  match o with
  | none => e = .returned (.tuple #[.slice none 0 0, .int .i64 140]) ∧ Below w.heap.size w w'
  | some L => ∃ v, e = .returned (.tuple #[v, .int .i64 0]) ∧ Fl 2 En.cs w' v L ∧ Below w.heap.size w w'
end Go.Proofs.YtcajejfddfiidaaDoor
