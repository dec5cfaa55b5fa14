import Derived.Test.YtnicolaphmffkaaGreatDoorMaA
import Derived.Test.YtnicolaphmffkaaGreatDoorMaP
import Derived.OwnWalk
import Derived.ArgAppend
import Derived.Laws.OwnMore
import Derived.Deep.RegionHeld3
import Derived.Deep.RegionLaw
import Derived.Deep.AppendSrc
import Derived.Deep.Upon
namespace Go.Proofs.YtnicolaphmffkaaGreatDoor
open Go.RowKit
set_option linter.unusedVariables false
set_option linter.unusedSimpArgs false

theorem own_block {w : World} {base e size n : Nat} {v : Value} {xs : List Value} (h : w.ownsRow base e size v n xs) (hn : 0 < n) : ∃ g cap, v = .slice (some ⟨g, 0, none⟩) n cap ∧ n ≤ cap ∧ base ≤ g ∧ g < w.heap.size := by
  rcases h.2 with ⟨_, h0⟩ | ⟨g, cap, cur, h1, h2, h3, h4⟩
  · omega
  · exact ⟨g, cap, h1, h4.1, h2, (Array.getElem?_eq_some_iff.1 h3).1⟩
theorem own_reads {w : World} {base e size n : Nat} {v : Value} {xs : List Value} (h : w.ownsRow base e size v n xs) {g : Nat} (hg : v.ownBlock = some g) : ∀ j u, xs[j]? = some u → w.cell? ⟨g, j, none⟩ = some u := by
  intro j u hu
  rcases h.2 with ⟨h0, _⟩ | ⟨g', cap, cur, h1, h2, h3, h4⟩
  · rw [h0] at hg; cases hg
  · rw [h1] at hg; cases hg
    subst h1
    have hj : j < n * size := by rw [← h.1]; exact (List.getElem?_eq_some_iff.1 hu).1
    rw [h.cellAt _ hj]; exact hu

/-- An append to a row of the call's own: in place, or in a new block; the row itself reads as before. -/
theorem wpList_append_mine {P : Program} (w : World) {ops : Array Oper} {rest : List Oper} {o : Oper} {a : Act} {Q : Exit → Act → World → Prop}
    (hg : o.guard = none) (s x : Operand) (t : TypeId) (hop : o.op = Op.call { callee := Callee.builtin Builtin.append, args := #[s, x], argTypes := #[t, t] })
    (base : Nat) (e : TypeId) (i : TypeInfo) (z : Value) (size bytes : Nat) (h1 : P.underlying t = some (.slice e)) (h2 : P.info? e = some i) (h3 : i.zero = some z) (h4 : i.size = size) (h5 : i.bytes = bytes) (h6 : z.cells.size = size) (h7 : 0 < size)
    (v : Value) (n : Nat) (xs : List Value) (hs : a.eval s = v) (hown : w.ownsRow base e size v n xs)
    (ad : Addr) (m c : Nat) (news : List Value) (hx : a.eval x = .slice (some ad) m c) (hn : news.length = m * size) (hc : ∀ j u, news[j]? = some u → w.cell? (ad.add j) = some u) (h1c : ∀ u ∈ news, u.oneCell' = true)
    (hm : 0 < m) (b1 : n + m ≤ maxLen) (b2 : (n + m) * bytes ≤ 140737488355328) (hbase : base ≤ w.heap.size)
    (hK : ∀ g' cap' w', w'.ownsRow base e size (.slice (some ⟨g', 0, none⟩) (n + m) cap') (n + m) (xs ++ news) → w.grownBy w' v.ownBlock → (v.ownBlock = some g' ∨ w.heap.size ≤ g') → (∀ g, v.ownBlock = some g → ∀ j u, xs[j]? = some u → w'.cell? ⟨g, j, none⟩ = some u) → n + m ≤ cap' → wpList P ops Q rest (a.put o.dst (.slice (some ⟨g', 0, none⟩) (n + m) cap')) w') :
    wpList P ops Q (o :: rest) a w := by
  have grows : ∀ (ao : Option Addr) (cap : Nat), v = .slice ao n cap → (ao = none → n = 0 ∧ cap = 0) → (∀ b, ao = some b → ∃ g, b = ⟨g, 0, none⟩) → cap < n + m → wpList P ops Q (o :: rest) a w := by
    intro ao cap hv hnone hb0 hfull
    refine wpList_append_grows w hg s x t hop e i z size bytes h1 h2 h3 h4 h5 h6 h7 ao n cap xs (hs.trans hv) hnone hown.1 ?_ ad m c news hx hn hc h1c hfull b1 b2 ?_
    · intro b hb j u hu
      obtain ⟨g, rfl⟩ := hb0 b hb
      rw [Go.WideShapes.add_plain, Nat.zero_add]
      exact own_reads hown (by rw [hv, hb]; rfl) j u hu
    · intro v' w' hown' hgrow
      obtain ⟨g', cap', rfl, hcap, hg', _⟩ := own_block hown' (by omega)
      refine hK g' cap' w' (own_mono hown' hbase) ⟨hgrow.os, hgrow.tape, hgrow.output, hgrow.size, fun k hk _ => hgrow.block k hk (by simp)⟩ (.inr hg') ?_ hcap
      intro g hgv j u hu
      have hlt := (own_lt hown g hgv).2
      rw [← own_reads hown hgv j u hu]
      exact World.cell?_of_block (hgrow.block g hlt (by simp))
  rcases hown.2 with ⟨hv, h0⟩ | ⟨g, cap, cur, hv, hbg, hcur, hnc, hrest⟩
  · exact grows none 0 (by rw [hv, h0]) (fun _ => ⟨h0, rfl⟩) (fun b hb => by cases hb) (by omega)
  · by_cases hr : n + m ≤ cap
    · subst hv
      refine wpList_append_fits w hg s x t hop base e i size h1 h2 h4 g n cap xs hs hown ad m c news hx hn hc h1c hr ?_
      intro w' hown' hgrow
      refine hK g cap w' hown' hgrow (.inl rfl) ?_ hr
      intro g1 hg1 j u hu
      cases hg1
      refine own_reads hown' rfl j u ?_
      rw [List.getElem?_append_left (List.getElem?_eq_some_iff.1 hu).1]; exact hu
    · exact grows (some ⟨g, 0, none⟩) cap hv (fun h => by cases h) (fun b hb => by cases hb; exact ⟨g, rfl⟩) (by omega)

/-- Blocks from B on, but for the row's own. -/
def Sx (B : Nat) (v : Value) : Nat → Prop := fun b => B ≤ b ∧ v.ownBlock ≠ some b
theorem Mv.set {S : Nat → Prop} {w : World} {g o : Nat} {v : Value} (hS : ¬ S g) : Mv S w S (w.setCell ⟨g, o, none⟩ v) :=
  ⟨by simp [World.setCell], fun k hk hs => ⟨Below.heap_setCell _ _ _ _ (by intro e; exact hS (by rw [← show k = g from e]; exact hs)), hs⟩⟩
theorem grown_bel {B : Nat} {w A C : World} {row : Option Nat} (h : Below B w A) (hg : A.grownBy C row) (hs : B ≤ w.heap.size) (hr : ∀ k, row = some k → B ≤ k) : Below B w C :=
  h.trans ⟨hg.os, hg.tape, hg.output, hg.size, fun k hk => hg.block k (by have := h.size; omega) (by intro e; have := hr k e.symm; omega)⟩

/-- Cells written one behind the other. -/
def setAll : List Value → Nat → List Value → List Value
  | xs, _, [] => xs
  | xs, o, c :: cs => setAll (xs.set o c) (o + 1) cs
def setCells : World → Nat → Nat → List Value → World
  | w, _, _, [] => w
  | w, g, o, c :: cs => setCells (w.setCell ⟨g, o, none⟩ c) g (o + 1) cs
theorem setAll_out : ∀ (cs xs : List Value) (o i : Nat), (i < o ∨ o + cs.length ≤ i) → (setAll xs o cs)[i]? = xs[i]?
  | [], _, _, _, _ => rfl
  | c :: cs, xs, o, i, h => by
    unfold setAll
    rw [setAll_out cs _ _ i (by simp at h; omega), List.getElem?_set_ne (by simp at h; omega)]
theorem setAll_in : ∀ (cs xs : List Value) (o j : Nat), o + cs.length ≤ xs.length → j < cs.length → (setAll xs o cs)[o + j]? = cs[j]?
  | [], _, _, j, _, h => by simp at h
  | c :: cs, xs, o, 0, hl, h => by
    unfold setAll
    rw [setAll_out cs _ _ _ (by omega)]
    have ho : o < xs.length := by simp at hl; omega
    simp [ho]
  | c :: cs, xs, o, j + 1, hl, h => by
    unfold setAll
    rw [show o + (j + 1) = (o + 1) + j by omega, setAll_in cs _ (o + 1) j (by simp at *; omega) (by simpa using h)]
    simp
theorem Mv.cells {S : Nat → Prop} {g : Nat} (hS : ¬ S g) : ∀ (cs : List Value) (w : World) (o : Nat), Mv S w S (setCells w g o cs)
  | [], w, _ => Mv.refl S w
  | c :: cs, w, o => (Mv.set hS).trans (Mv.cells hS cs _ _)
/-- The first k elements of a row are L's. -/
def Pre {α : Type} (sz : Nat) (R : (Nat → Prop) → World → List Value → α → Prop) (S : Nat → Prop) (w : World) (xs : List Value) (L : List α) (k : Nat) : Prop :=
  ∀ (i : Nat) (h : i < L.length), i < k → ∃ cs : List Value, cs.length = sz ∧ R S w cs L[i] ∧ ∀ j, j < sz → xs[i * sz + j]? = cs[j]?
theorem Pre.mv {α : Type} {sz : Nat} {R : (Nat → Prop) → World → List Value → α → Prop} {S S' : Nat → Prop} {w w' : World} {xs : List Value} {L : List α} {k : Nat}
    (h : Pre sz R S w xs L k) (hR : ∀ cs x, R S w cs x → R S' w' cs x) : Pre sz R S' w' xs L k :=
  fun i hi hk => by obtain ⟨cs, h1, h2, h3⟩ := h i hi hk; exact ⟨cs, h1, hR _ _ h2, h3⟩
theorem Pre.zero {α : Type} (sz : Nat) (R : (Nat → Prop) → World → List Value → α → Prop) (S : Nat → Prop) (w : World) (xs : List Value) (L : List α) : Pre sz R S w xs L 0 := fun i _ h => by omega
theorem Pre.put {α : Type} {sz : Nat} {R : (Nat → Prop) → World → List Value → α → Prop} {S : Nat → Prop} {w : World} {xs cs : List Value} {L : List α} {k : Nat}
    (h : Pre sz R S w xs L k) (hxl : xs.length = L.length * sz) (hk : k < L.length) (hl : cs.length = sz) (hx : R S w cs L[k]) : Pre sz R S w (setAll xs (k * sz) cs) L (k + 1) := by
  intro i hi hik
  have hle : (k + 1) * sz ≤ L.length * sz := Nat.mul_le_mul_right _ hk
  rw [Nat.succ_mul] at hle
  by_cases e : i < k
  · obtain ⟨c, h1, h2, h3⟩ := h i hi e
    refine ⟨c, h1, h2, fun j hj => ?_⟩
    rw [setAll_out]
    · exact h3 j hj
    · left
      calc i * sz + j < i * sz + sz := by omega
        _ = (i + 1) * sz := (Nat.succ_mul i sz).symm
        _ ≤ k * sz := Nat.mul_le_mul_right _ e
  · have e' : i = k := by omega
    subst e'
    exact ⟨cs, hl, hx, fun j hj => setAll_in cs xs (i * sz) j (by rw [hl, hxl]; exact hle) (by rw [hl]; exact hj)⟩
end Go.Proofs.YtnicolaphmffkaaGreatDoor
namespace Go.Proofs.YtnicolaphmffkaaGreatDoor
open Go.RowKit
set_option linter.unusedVariables false
set_option linter.unusedSimpArgs false

end Go.Proofs.YtnicolaphmffkaaGreatDoor
namespace Go.Proofs.YtnicolaphmffkaaGreatDoor
open Go.RowKit
set_option linter.unusedVariables false
set_option linter.unusedSimpArgs false

theorem below_drewN (w : World) (n : Nat) : Below w.heap.size w (w.drewN n) := bel_drewN (Below.refl _ _)

end Go.Proofs.YtnicolaphmffkaaGreatDoor
namespace Go.Proofs.YtnicolaphmffkaaGreatDoor
open Go.RowKit
set_option linter.unusedVariables false
set_option linter.unusedSimpArgs false

theorem info9 : (Tryz.prog.info? 9).map (fun i => (i.zero, i.size, i.bytes)) = some (some (.string ⟨#[]⟩), 1, 16) := by kernel_rfl
theorem grown_none {w w' : World} (h : w.grownBy w' none) : Below w.heap.size w w' := ⟨h.os, h.tape, h.output, h.size, fun k hk => h.block k hk (by simp)⟩
theorem own_bel {w w' : World} {base e size n : Nat} {v : Value} {xs : List Value} (h : w.ownsRow base e size v n xs) (hb : Below w.heap.size w w') : w'.ownsRow base e size v n xs := own_only h (Only.of_below (S := fun _ => False) hb) (fun _ _ h => h)
end Go.Proofs.YtnicolaphmffkaaGreatDoor
namespace Go.Proofs.YtnicolaphmffkaaGreatDoor
open Go.RowKit
set_option linter.unusedVariables false
set_option linter.unusedSimpArgs false

end Go.Proofs.YtnicolaphmffkaaGreatDoor
namespace Go.Proofs.YtnicolaphmffkaaGreatDoor
open Go.RowKit
set_option linter.unusedVariables false
set_option linter.unusedSimpArgs false

end Go.Proofs.YtnicolaphmffkaaGreatDoor
namespace Go.Proofs.YtnicolaphmffkaaGreatDoor
open Go.RowKit
set_option linter.unusedVariables false
set_option linter.unusedSimpArgs false

theorem run_copy {P : Program} (w : World) (t ty : TypeId) (e : TypeId) (i : TypeInfo) (z : Value) (size bytes : Nat) (ht : P.underlying t = some (.slice e)) (hi : P.info? e = some i) (hz : i.zero = some z)
    (hsize : i.size = size) (hby : i.bytes = bytes) (hzs : z.cells.size = size) (hsz : 0 < size) (va : Option Addr) (m c : Nat) (news : List Value) (hl : news.length = m * size)
    (hnews : ∀ ad, va = some ad → ∀ j u, news[j]? = some u → w.cell? (ad.add j) = some u) (h1 : ∀ u ∈ news, u.oneCell' = true) (hva : va = none → m = 0) (h63 : m ≤ maxLen) (hbytes : m * bytes ≤ 140737488355328) :
    ∃ a' c' w', (Builtin.append_ #[t, t] ty #[.slice none 0 0, .slice va m c]).run P w = .ok (.slice a' m c') w' ∧ w'.ownsRow w.heap.size e size (.slice a' m c') m news ∧ Below w.heap.size w w' := by
  rcases Nat.eq_zero_or_pos m with h0 | hm
  · subst h0
    have hnil : news = [] := List.length_eq_zero_iff.1 (by simpa using hl)
    subst hnil
    have hsrc : Src P i.size t (.slice va 0 c) 0 [] w := by
      cases va with
      | none => exact Src.ofNil w ht c
      | some ad => exact Src.ofSlice w ht ad 0 c [] (by simp) (fun j u hu => by simp at hu) (fun u hu => by cases hu)
    exact ⟨none, 0, w, run_append_nothing (P := P) w t t ty e i ht hi none 0 0 (Nat.le_refl _) (.slice va 0 c) hsrc, World.ownsRow_nil _ _ _ _, Below.refl _ _⟩
  · cases va with
    | none => exact absurd (hva rfl) (by omega)
    | some ad =>
      obtain ⟨g, cap, w', hr, h2, h3, _, _⟩ := run_append_lies (P := P) w t ty w.heap.size e i z size bytes ht hi hz hsize hby hzs hsz (.slice none 0 0) 0 [] (World.ownsRow_nil _ _ _ _) ad m c news hl (hnews ad rfl) h1 hm (by omega) (by rw [Nat.zero_add]; exact hbytes) (Nat.le_refl _) _ rfl
      rw [Nat.zero_add] at hr h2
      exact ⟨_, _, w', hr, h2, grown_none h3⟩
theorem step_copy {P : Program} {w : World} {ops : Array Oper} {o : Oper} {a : Act} {K : Act → World → Prop} {Q : Exit → Act → World → Prop} {E : Prop} (hgd : o.guard = none) (s x : Operand) (t : TypeId)
    (ho : o.op = .call { callee := .builtin .append, args := #[s, x], argTypes := #[t, t] })
    (e : TypeId) (i : TypeInfo) (z : Value) (size bytes : Nat) (ht : P.underlying t = some (.slice e)) (hi : P.info? e = some i) (hz : i.zero = some z)
    (hsize : i.size = size) (hby : i.bytes = bytes) (hzs : z.cells.size = size) (hsz : 0 < size) (va : Option Addr) (m c : Nat) (news : List Value) (hs : a.eval s = .slice none 0 0) (hx : a.eval x = .slice va m c) (hl : news.length = m * size)
    (hnews : ∀ ad, va = some ad → ∀ j u, news[j]? = some u → w.cell? (ad.add j) = some u) (h1 : ∀ u ∈ news, u.oneCell' = true) (hva : va = none → m = 0) (h63 : m ≤ maxLen) (hbytes : m * bytes ≤ 140737488355328)
    (h : ∀ a' c' w', w'.ownsRow w.heap.size e size (.slice a' m c') m news → Below w.heap.size w w' → K (a.put o.dst (.slice a' m c')) w') :
    if Region.wanted o (yielded ops a.tmps) = true then Oper.wp P o a w K Q else E := by
  have hw : Region.wanted o (yielded ops a.tmps) = true := by simp [Region.wanted, hgd]
  rw [if_pos hw]
  obtain ⟨a', c', w', hr, h2, h3⟩ := run_copy (P := P) w t o.type e i z size bytes ht hi hz hsize hby hzs hsz va m c news hl hnews h1 hva h63 hbytes
  unfold Oper.wp execOp
  simp only [ho, resolve, invoke, builtin, Sem.run_bind, Sem.run_pure, Result.andThen_ok, List.map_toArray, List.map_cons, List.map_nil, hs, hx, hr]
  exact h a' c' w' h2 h3
theorem wpList_copyv {P : Program} {w : World} {ops : Array Oper} {rest : List Oper} {o : Oper} {a : Act} {Q : Exit → Act → World → Prop} (hgd : o.guard = none) (s x : Operand) (t : TypeId)
    (ho : o.op = .call { callee := .builtin .append, args := #[s, x], argTypes := #[t, t] })
    (e : TypeId) (i : TypeInfo) (z : Value) (size bytes : Nat) (ht : P.underlying t = some (.slice e)) (hi : P.info? e = some i) (hz : i.zero = some z)
    (hsize : i.size = size) (hby : i.bytes = bytes) (hzs : z.cells.size = size) (hsz : 0 < size) (va : Option Addr) (m c : Nat) (news : List Value) (hs : a.eval s = .slice none 0 0) (hx : a.eval x = .slice va m c) (hl : news.length = m * size)
    (hnews : ∀ ad, va = some ad → ∀ j u, news[j]? = some u → w.cell? (ad.add j) = some u) (h1 : ∀ u ∈ news, u.oneCell' = true) (hva : va = none → m = 0) (h63 : m ≤ maxLen) (hbytes : m * bytes ≤ 140737488355328)
    (h : ∀ a' c' w', w'.ownsRow w.heap.size e size (.slice a' m c') m news → Below w.heap.size w w' → wpList P ops Q rest (a.put o.dst (.slice a' m c')) w') :
    wpList P ops Q (o :: rest) a w := by
  refine wpList_plain hgd fun K hK => ?_
  obtain ⟨a', c', w', hr, h2, h3⟩ := run_copy (P := P) w t o.type e i z size bytes ht hi hz hsize hby hzs hsz va m c news hl hnews h1 hva h63 hbytes
  unfold Oper.wp execOp
  simp only [ho, resolve, invoke, builtin, Sem.run_bind, Sem.run_pure, Result.andThen_ok, List.map_toArray, List.map_cons, List.map_nil, hs, hx, hr]
  exact hK _ _ (h a' c' w' h2 h3)
/-- The cells of a list of texts. -/
def cellsT (L : List ByteArray) : List Value := L.map Value.string
theorem Txs.news {S : Nat → Prop} {w : World} {va : Option Addr} {c : Nat} {L : List ByteArray} (h : Txs S w (.slice va L.length c) L) : (∀ ad, va = some ad → ∀ j u, (cellsT L)[j]? = some u → w.cell? (ad.add j) = some u) ∧ (va = none → L.length = 0) := by
  rcases h with ⟨e, h⟩ | ⟨ad, cap, e, _, _, h | ⟨hs, _, hg, hx⟩⟩
  · subst h; exact ⟨fun ad _ j u hu => by simp [cellsT] at hu, fun _ => rfl⟩
  · subst h; exact ⟨fun ad _ j u hu => by simp [cellsT] at hu, fun _ => rfl⟩
  · cases e
    refine ⟨fun ad' e j u hu => ?_, fun e => by cases e⟩
    cases e
    obtain ⟨b, o, s⟩ := ad
    cases hs
    have hj : j < L.length := by have := (List.getElem?_eq_some_iff.1 hu).1; simpa [cellsT] using this
    obtain ⟨cs, _, rfl, h3⟩ := hx j hj
    have hu' : u = .string L[j] := by simp [cellsT, hj] at hu; exact hu.symm
    subst hu'
    have := h3 0 _ rfl
    rw [Go.WideShapes.add_plain]
    simpa using this
end Go.Proofs.YtnicolaphmffkaaGreatDoor
namespace Go.Proofs.YtnicolaphmffkaaGreatDoor
open Go.RowKit
set_option linter.unusedVariables false
set_option linter.unusedSimpArgs false

theorem cells_at {W : World} {b : Nat} (hb : b = W.heap.size) (xs : List Value) (t : TypeId) : ∀ j u, xs[j]? = some u → (W.alloc (.cells xs.toArray t)).cell? ((⟨b, 0, none⟩ : Addr).add j) = some u := by
  subst hb; exact cells_ten xs t
theorem all_one {l : List Value} (h : l.all (fun u => u.oneCell') = true) : ∀ u ∈ l, u.oneCell' = true := fun u hu => List.all_eq_true.1 h u hu
/-- A list of the call's own, with what it holds. -/
def Own {α : Type} (e sz : Nat) (R : (Nat → Prop) → World → List Value → α → Prop) (B : Nat) (w : World) (v : Value) (L : List α) : Prop :=
  ∃ xs, w.ownsRow B e sz v L.length xs ∧ Els sz R (Sx B v) w xs L
end Go.Proofs.YtnicolaphmffkaaGreatDoor
