import Derived.Test.YtbgfeogigjjmdaaDoorSmB
import Derived.Laws.MakeOwn
import Derived.Laws.OwnMore
import Derived.Laws.AppendOwnNone
import Derived.Deep.AppendLies
namespace Go.Proofs.YtbgfeogigjjmdaaDoor
open Go.RowKit
set_option linter.unusedVariables false

theorem wpList_make_all {P : Program} (w : World) {ops : Array Oper} {rest : List Oper} {o : Oper} {a : Act} {Q : Exit → Act → World → Prop}
    (hg : o.guard = none) (l c : Operand) (t : TypeId) (hop : o.op = Op.makeSlice t l c)
    (base : Nat) (e : TypeId) (i : TypeInfo) (z : Value) (h1 : P.underlying t = some (.slice e)) (h2 : P.info? e = some i) (h3 : i.zero = some z) (h4 : i.size = 1) (hz : z.cells = #[z])
    (kl kc : IntKind) (n : Nat) (hl : a.eval l = .int kl (n : Int)) (hc : a.eval c = .int kc (n : Int)) (b2 : i.bytes * n ≤ 281474976710656) (b3 : n ≤ maxLen) (b4 : base ≤ w.heap.size)
    (hK : ∀ w', w'.ownsRow base e 1 (.slice (some ⟨w.heap.size, 0, none⟩) n n) n (List.replicate n z) → w.grownBy w' none → wpList P ops Q rest (a.put o.dst (.slice (some ⟨w.heap.size, 0, none⟩) n n)) w') :
    wpList P ops Q (o :: rest) a w := by
  refine wpList_plain hg fun K hK' => ?_
  have h63' : (n : Int) ≤ 9223372036854775807 := by
    have h := b3
    simp [maxLen] at h
    omega
  have hb' : (i.bytes : Int) * (n : Int) ≤ 281474976710656 := by
    have h : ((i.bytes * n : Nat) : Int) ≤ 281474976710656 := by omega
    rwa [Int.natCast_mul] at h
  have hrun := run_make (P := P) w t e i z h1 h2 h3 kl kc (n : Int) (n : Int) (by omega) (by omega) hb' h63'
  rw [Int.toNat_natCast, h4, hz, Nat.mul_one] at hrun
  have r1 : (w.alloc (.cells (madeCells #[z] n) e)).ownsRow base e 1 (.slice (some ⟨w.heap.size, 0, none⟩) n n) n (List.replicate n z) :=
    ⟨by simp, .inr ⟨w.heap.size, n, madeCells #[z] n, rfl, b4, heap_alloc_new w _, Nat.le_refl _, b3, by rw [size_madeCells, Nat.mul_one], by rw [toList_madeCells_one, Nat.mul_one, List.take_replicate, Nat.min_self]⟩⟩
  unfold Oper.wp
  simp [execOp, hop, hl, hc, hrun, Result.andThen]
  exact hK' _ _ (hK _ r1 (World.grownBy_alloc w _ none))
theorem grown_none {w w' : World} (h : w.grownBy w' none) : Below w.heap.size w w' := ⟨h.os, h.tape, h.output, h.size, fun k hk => h.block k hk (by simp)⟩
theorem info5 : (Tryd.prog.info? 5).map (fun i => (i.zero, i.size, i.bytes)) = some (some (.int .u8 0), 1, 1) := by kernel_rfl
/-- Bytes as cells. -/
def v8 (L : List Nat) : List Value := L.map fun (x : Nat) => .int .u8 (x : Int)
theorem v8_len (L : List Nat) : (v8 L).length = L.length := by simp [v8]
theorem v8_get (L : List Nat) (i : Nat) (h : i < L.length) : (v8 L)[i]? = some (.int .u8 ((L.getD i 0 : Nat) : Int)) := by simp [v8, h]
theorem v8_set (L : List Nat) (i x : Nat) : (v8 L).set i (.int .u8 (x : Int)) = v8 (L.set i x) := by simp [v8, List.map_set]
theorem v8_zero (n : Nat) : List.replicate n (.int .u8 0) = v8 (List.replicate n 0) := by simp [v8]
theorem v8_one (L : List Nat) : ∀ u ∈ v8 L, u.oneCell' = true := by
  intro u hu
  unfold v8 at hu
  rw [List.mem_map] at hu
  obtain ⟨x, _, rfl⟩ := hu
  rfl
theorem Bs.below {w w' : World} {a : Option Addr} {L : List Nat} (h : Bs w a L) (hb : Below w.heap.size w w') : Bs w' a L := by
  refine ⟨h.1, h.2.imp id ?_⟩
  rintro ⟨b, o, rfl, h1, h2⟩
  exact ⟨b, o, rfl, Nat.lt_of_lt_of_le h1 hb.size, fun i hi => (hb.cell (p := ⟨b, o + i, none⟩) h1).trans (h2 i hi)⟩
theorem Bs.take {w : World} {a : Option Addr} {L : List Nat} (h : Bs w a L) (n : Nat) : Bs w a (L.take n) := by
  refine ⟨fun x hx => h.1 x (List.mem_of_mem_take hx), ?_⟩
  rcases h.2 with rfl | ⟨b, o, rfl, h1, h2⟩
  · left; simp
  · refine .inr ⟨b, o, rfl, h1, fun i hi => ?_⟩
    have hi' : i < n ∧ i < L.length := by rw [List.length_take] at hi; omega
    rw [h2 i hi'.2]
    simp [List.getD_eq_getElem?_getD, hi'.1]
theorem Bs.own {w : World} {base g n cap : Nat} {L : List Nat} (h : w.ownsRow base 5 1 (.slice (some ⟨g, 0, none⟩) n cap) n (v8 L)) (hn : n = L.length) (hL : ∀ x ∈ L, x < 256) : Bs w (some ⟨g, 0, none⟩) L := by
  subst hn
  refine ⟨hL, .inr ⟨g, 0, rfl, (own_lt h g rfl).2, fun i hi => ?_⟩⟩
  rw [Nat.zero_add, h.cellAt i (by omega), v8_get L i hi]
theorem rem_below {w w' : World} (h : RemOk w) (hb : Below w.heap.size w w') : RemOk w' := by
  have h0 : 0 < w.heap.size := by
    rcases Nat.eq_zero_or_pos w.heap.size with e | e
    · have := h 0 (by omega)
      have e1 : w.heap[0]? = none := by simp [e]
      simp [World.cell?, e1] at this
    · exact e
  intro i hi
  exact (hb.cell (p := ⟨0, i, none⟩) h0).trans (h i hi)
theorem bel_grown {w W W' : World} {g : Nat} (h : Below w.heap.size w W) (hg : W.grownBy W' (some g)) (hb : w.heap.size ≤ g) : Below w.heap.size w W' :=
  ⟨hg.os.trans h.os, hg.tape.trans h.tape, hg.output.trans h.output, Nat.le_trans h.size hg.size, fun k hk => (hg.block k (Nat.lt_of_lt_of_le hk h.size) (by intro e; cases e; omega)).trans (h.block k hk)⟩
theorem cell_marked (w : World) (cs : Array Value) (t : TypeId) (f : Nat × Nat) (i : Nat) : (w.alloc (.cells cs t f)).cell? ⟨w.heap.size, i, none⟩ = cs[i]? := by
  have h : (w.alloc (.cells cs t f)).heap[w.heap.size]? = some (.cells cs t f) := by
    show (w.heap.push (.cells cs t f))[w.heap.size]? = _
    simp
  unfold World.cell?
  rw [h]
  rfl
theorem xor8 {a b : Nat} (ha : a < 256) (hb : b < 256) : a ^^^ b < 256 := Nat.xor_lt_two_pow (n := 8) ha hb
theorem turn_bit (x k : Nat) (hx : x < 256) : ∃ v, v < 256 ∧ v ≠ x ∧ bits .xor .u8 (x : Int) (2 ^ (k % 8) % 256) = (v : Int) := by
  have hp : ∀ j, j < 8 → 2 ^ j < 256 ∧ 2 ^ j ≠ 0 := by decide
  obtain ⟨h1, h2⟩ := hp (k % 8) (by omega)
  refine ⟨x ^^^ 2 ^ (k % 8), xor8 hx h1, fun e => h2 ?_, ?_⟩
  · have : x ^^^ 2 ^ (k % 8) = x ^^^ 0 := by rw [e, Nat.xor_zero]
    rw [Nat.xor_comm x, Nat.xor_comm x] at this
    exact Crc.xor_can this
  · have e : ((2 : Int) ^ (k % 8) % 256) = ((2 ^ (k % 8) : Nat) : Int) := by
      rw [show ((2 : Int) ^ (k % 8)) = ((2 ^ (k % 8) : Nat) : Int) by simp]
      exact Int.emod_eq_of_lt (Int.natCast_nonneg _) (Int.ofNat_lt.2 h1)
    rw [e]
    exact u8_xor_nat _ _ hx h1
/-- The bitwise sum of three lists, up to a place. -/
def x3 (A B C : List Nat) (n k : Nat) : List Nat := (List.range n).map fun i => if i < k then A.getD i 0 ^^^ B.getD i 0 ^^^ C.getD i 0 else 0
theorem x3_len (A B C : List Nat) (n k : Nat) : (x3 A B C n k).length = n := by simp [x3]
theorem x3_zero (A B C : List Nat) (n : Nat) : x3 A B C n 0 = List.replicate n 0 := by
  apply List.ext_getElem
  · simp [x3]
  · intro i h1 h2; simp [x3]
theorem x3_set (A B C : List Nat) (n k : Nat) : (x3 A B C n k).set k (A.getD k 0 ^^^ B.getD k 0 ^^^ C.getD k 0) = x3 A B C n (k + 1) := by
  apply List.ext_getElem
  · simp [x3]
  · intro i h1 h2
    rw [List.getElem_set]
    simp only [x3, List.getElem_map, List.getElem_range]
    by_cases e : k = i
    · subst e; simp
    · rw [if_neg e]
      by_cases h : i < k
      · rw [if_pos h, if_pos (by omega)]
      · rw [if_neg h, if_neg (by omega)]
theorem x3_lt {A B C : List Nat} {n k : Nat} (hA : ∀ i, A.getD i 0 < 256) (hB : ∀ i, B.getD i 0 < 256) (hC : ∀ i, C.getD i 0 < 256) : ∀ x ∈ x3 A B C n k, x < 256 := by
  intro x hx
  unfold x3 at hx
  rw [List.mem_map] at hx
  obtain ⟨i, _, rfl⟩ := hx
  split
  · exact xor8 (xor8 (hA i) (hB i)) (hC i)
  · decide
theorem x3_crc (A B C : List Nat) (n : Nat) (ha : A.length = n) (hb : B.length = n) (hc : C.length = n) : Crc.crc (x3 A B C n n) = Crc.crc A ^^^ Crc.crc B ^^^ Crc.crc C :=
  Crc.crc_xor A B C _ (by rw [x3_len, ha]) (by rw [x3_len, hb]) (by rw [x3_len, hc]) (fun i h => by
    have h' : i < n := by rw [x3_len] at h; exact h
    simp [x3, h'])
end Go.Proofs.YtbgfeogigjjmdaaDoor
