import Derived.Laws.BytesArg
import Derived.Lib.SliceRun
import Derived.Laws.MakeOwn
import Derived.Laws.Slices
import Derived.Test.YtahheagfgfpdmaaGen
namespace Go.Proofs.Ytahheagfgfpdmaa
open Go.RowKit
set_option linter.unusedVariables false
set_option linter.unusedSimpArgs false

theorem belN1 {w : World} {o1 : Obj} : Below w.heap.size w (w.alloc o1) := (Below.refl _ _).alloc (Nat.le_refl _) _
theorem bel_only {B : Nat} {S : Nat → Prop} {a w w' : World} (h : Below B a w) (ho : Only S w w') (hB : B ≤ a.heap.size) (hS : ∀ k, k < B → ¬ S k) : Below B a w' :=
  ⟨ho.os.trans h.os, ho.tape.trans h.tape, ho.output.trans h.output, Nat.le_trans h.size ho.size, fun k hk => (ho.block k (by have := h.size; omega) (hS k hk)).trans (h.block k hk)⟩
/-- Bytes as they are read, in blocks of S. -/
def By (S : Nat → Prop) (w : World) (v : Value) (L : List Int) : Prop :=
  ∃ a cap, v = .slice a L.length cap ∧ L.length ≤ cap ∧ L.length ≤ 140737488355328 ∧ (a = none → L = []) ∧
    (L = [] ∨ ∃ g o, a = some ⟨g, o, none⟩ ∧ S g ∧ g < w.heap.size ∧ ∀ (i : Nat) (h : i < L.length), w.cell? ⟨g, o + i, none⟩ = some (.int .u8 L[i]))
theorem By.keep {S S' : Nat → Prop} {w w' : World} {v : Value} {L : List Int} (h : By S w v L) (hm : Mv S w S' w') : By S' w' v L := by
  obtain ⟨a, cap, e, h1, h2, h3, h4⟩ := h
  refine ⟨a, cap, e, h1, h2, h3, h4.imp id ?_⟩
  rintro ⟨g, o, e2, hS, hg, hx⟩
  exact ⟨g, o, e2, (hm.2 g hg hS).2, Nat.lt_of_lt_of_le hg hm.1, fun i hi => (World.cell?_of_block (w := w) (a := ⟨g, _, none⟩) (hm.2 g hg hS).1).trans (hx i hi)⟩
theorem mv_only {S T : Nat → Prop} {w w' : World} (ho : Only T w w') (h : ∀ k, S k → ¬ T k) : Mv S w S w' := ⟨ho.size, fun k hk hs => ⟨ho.block k hk (h k hs), hs⟩⟩
theorem wrap64 (z : Int) (h : -9223372036854775808 ≤ z ∧ z ≤ 9223372036854775807) : IntKind.i64.wrap z = z := by
  simp [IntKind.wrap, IntKind.bits, IntKind.signed]
  omega
def bv (x : Int) : Value := .int .u8 x
theorem own_at {w : World} {base g n cap : Nat} {L : List Int} (h : w.ownsRow base 5 1 (.slice (some ⟨g, 0, none⟩) n cap) n (L.map bv)) : g < w.heap.size ∧ base ≤ g ∧ n = L.length ∧ n ≤ cap ∧ (∀ j, w.frozen? ⟨g, j, none⟩ = false) ∧ ∀ (j : Nat) (hj : j < L.length), w.cell? ⟨g, j, none⟩ = some (.int .u8 L[j]) := by
  have hr := own_reads h (g := g) rfl
  have hl := h.1
  rcases h.2 with ⟨h0, _⟩ | ⟨g', cap', cur, h1, h2, h3, h4, h5, h6, h7⟩
  · cases h0
  · injection h1 with e1 _ e3
    injection e1 with e1
    injection e1 with e1
    subst e1
    subst e3
    refine ⟨(Array.getElem?_eq_some_iff.1 h3).1, h2, by simpa using hl.symm, h4, fun j => by simp [World.frozen?, h3], fun j hj => hr j _ (by simp [hj, bv])⟩
theorem own_set {w : World} {base g n cap : Nat} {L : List Int} (h : w.ownsRow base 5 1 (.slice (some ⟨g, 0, none⟩) n cap) n (L.map bv)) (j : Nat) (x : Int) : (w.setCell ⟨g, j, none⟩ (.int .u8 x)).ownsRow base 5 1 (.slice (some ⟨g, 0, none⟩) n cap) n ((L.set j x).map bv) := by
  have := (h.stored j (.int .u8 x)).1
  rwa [List.map_set]
theorem infoB : (Try.prog.info? 5).map (fun i => (i.zero, i.size, i.bytes)) = some (some (.int .u8 0), 1, 1) := by kernel_rfl
theorem By.src {S : Nat → Prop} {w : World} {va : Option Addr} {c : Nat} {L : List Int} (h : By S w (.slice va L.length c) L) : (∀ ad, va = some ad → ∀ j u, (L.map bv)[j]? = some u → w.cell? (ad.add j) = some u) ∧ (va = none → L.length = 0) ∧ L.length ≤ 140737488355328 := by
  obtain ⟨a, cap, e, h1, h2, h3, h4⟩ := h
  injection e with e _ _
  subst e
  refine ⟨fun ad e j u hu => ?_, fun e => by rw [h3 e]; rfl, h2⟩
  have hj : j < L.length := by have := (List.getElem?_eq_some_iff.1 hu).1; simpa using this
  obtain ⟨g, o, e2, -, -, hx⟩ := h4.resolve_left (by intro e; rw [e] at hj; simp at hj)
  rw [e] at e2
  injection e2 with e2
  subst e2
  rw [Go.WideShapes.add_plain, hx j hj]
  rw [List.getElem?_map, List.getElem?_eq_getElem hj] at hu
  simpa [bv] using hu
theorem bv_one (L : List Int) : ∀ u ∈ L.map bv, u.oneCell' = true := by
  intro u hu
  obtain ⟨x, _, rfl⟩ := List.mem_map.1 hu
  rfl
/-- Bytes in memory of their own, from block B on. -/
def Ob (B : Nat) (w : World) (v : Value) (L : List Int) : Prop :=
  (v = .slice none 0 0 ∧ L = []) ∨ ∃ g cap, v = .slice (some ⟨g, 0, none⟩) L.length cap ∧ B ≤ g ∧ g < w.heap.size ∧ L.length ≤ cap ∧ L.length ≤ 140737488355328 ∧
    ((∃ base, w.ownsRow base 5 1 (.slice (some ⟨g, 0, none⟩) L.length cap) L.length (L.map bv)) ∨ (cap = L.length ∧ ∀ (j : Nat) (h : j < L.length), w.cell? ⟨g, j, none⟩ = some (.int .u8 L[j]) ∧ w.frozen? ⟨g, j, none⟩ = false))
theorem Ob.own {B base : Nat} {w : World} {g cap : Nat} {L : List Int} (h : w.ownsRow base 5 1 (.slice (some ⟨g, 0, none⟩) L.length cap) L.length (L.map bv)) (hB : B ≤ g) (hl : L.length ≤ 140737488355328) : Ob B w (.slice (some ⟨g, 0, none⟩) L.length cap) L := by
  obtain ⟨h1, h2, h3, h4, -⟩ := own_at h
  exact .inr ⟨g, cap, rfl, hB, h1, h4, hl, .inl ⟨base, h⟩⟩
theorem Ob.keep {B : Nat} {w w' : World} {v : Value} {L : List Int} (h : Ob B w v L) (hs : w.heap.size ≤ w'.heap.size) (hb : ∀ q, v.ownBlock = some q → w'.heap[q]? = w.heap[q]?) : Ob B w' v L := by
  rcases h with h | ⟨g, cap, rfl, h1, h2, h3, h4, h5⟩
  · exact .inl h
  · have hg := hb g rfl
    refine .inr ⟨g, cap, rfl, h1, Nat.lt_of_lt_of_le h2 hs, h3, h4, ?_⟩
    rcases h5 with ⟨base, ho⟩ | ⟨hc, hx⟩
    · exact .inl ⟨base, own_keep ho (fun q hq => hb q hq)⟩
    · exact .inr ⟨hc, fun j hj => ⟨(World.cell?_of_block (a := ⟨g, j, none⟩) hg).trans (hx j hj).1, (World.frozen?_of_block (a := ⟨g, j, none⟩) hg).trans (hx j hj).2⟩⟩
theorem Ob.cells {B : Nat} {w : World} {g n cap : Nat} {L : List Int} (h : Ob B w (.slice (some ⟨g, 0, none⟩) n cap) L) : n = L.length ∧ B ≤ g ∧ g < w.heap.size ∧ L.length ≤ cap ∧ L.length ≤ 140737488355328 ∧ ∀ (j : Nat) (hj : j < L.length), w.cell? ⟨g, j, none⟩ = some (.int .u8 L[j]) ∧ w.frozen? ⟨g, j, none⟩ = false := by
  rcases h with ⟨e, _⟩ | ⟨g', cap', e, h1, h2, h3, h4, h5⟩
  · cases e
  · injection e with e1 e2 e3
    injection e1 with e1
    injection e1 with e1
    subst e1
    subst e3
    refine ⟨e2, h1, h2, h3, h4, fun j hj => ?_⟩
    rcases h5 with ⟨base, ho⟩ | ⟨hc, hx⟩
    · obtain ⟨-, -, -, -, f, c⟩ := own_at ho
      exact ⟨c j hj, f j⟩
    · exact hx j hj
theorem Ob.val {B : Nat} {w : World} {v : Value} {L : List Int} (h : Ob B w v L) : (v = .slice none 0 0 ∧ L = []) ∨ ∃ g cap, v = .slice (some ⟨g, 0, none⟩) L.length cap := by
  rcases h with h | ⟨g, cap, rfl, _⟩
  · exact .inl h
  · exact .inr ⟨g, cap, rfl⟩
theorem Ob.lt {B : Nat} {w : World} {v : Value} {L : List Int} (h : Ob B w v L) : ∀ q, v.ownBlock = some q → B ≤ q ∧ q < w.heap.size := by
  intro q hq
  rcases h with ⟨rfl, _⟩ | ⟨g, cap, rfl, h1, h2, _⟩
  · cases hq
  · injection hq with hq
    subst hq
    exact ⟨h1, h2⟩
theorem Ob.by {B : Nat} {w : World} {v : Value} {L : List Int} (h : Ob B w v L) : By (fun q => v.ownBlock = some q) w v L := by
  rcases h.val with ⟨rfl, rfl⟩ | ⟨g, cap, rfl⟩
  · exact ⟨none, 0, rfl, Nat.le_refl _, by simp, fun _ => rfl, .inl rfl⟩
  · obtain ⟨-, -, h2, h3, h4, h5⟩ := h.cells
    exact ⟨_, cap, rfl, h3, h4, fun e => (by cases e), .inr ⟨g, 0, rfl, rfl, h2, fun i hi => by rw [Nat.zero_add]; exact (h5 i hi).1⟩⟩
theorem Ob.mono {B B' : Nat} {w : World} {v : Value} {L : List Int} (h : Ob B w v L) (hB : B' ≤ B) : Ob B' w v L := by
  rcases h with h | ⟨g, cap, rfl, h1, h2⟩
  · exact .inl h
  · exact .inr ⟨g, cap, rfl, Nat.le_trans hB h1, h2⟩
theorem Ob.set {B : Nat} {w : World} {g n cap : Nat} {L : List Int} (h : Ob B w (.slice (some ⟨g, 0, none⟩) n cap) L) (k : Nat) (hk : k < n) (x : Int) : Ob B (w.setCell ⟨g, k, none⟩ (.int .u8 x)) (.slice (some ⟨g, 0, none⟩) n cap) (L.set k x) := by
  obtain ⟨e0, h1, h2, h3, h4, h5⟩ := h.cells
  subst e0
  have hlen : (L.set k x).length = L.length := by simp
  refine .inr ⟨g, cap, by rw [hlen], h1, by simpa [World.setCell] using h2, by omega, by omega, ?_⟩
  rcases h with ⟨e, _⟩ | ⟨g', cap', e, _, _, _, _, h6⟩
  · cases e
  · injection e with e1 _ e3
    injection e1 with e1
    injection e1 with e1
    subst e1
    subst e3
    rcases h6 with ⟨base, ho⟩ | ⟨hc, hx⟩
    · exact .inl ⟨base, by rw [hlen]; exact own_set ho k x⟩
    · refine .inr ⟨by rw [hlen]; exact hc, fun j hj' => ?_⟩
      have hj : j < L.length := by rw [hlen] at hj'; exact hj'
      rw [World.frozen?_setCell]
      refine ⟨?_, (hx j hj).2⟩
      by_cases e : k = j
      · subst e
        rw [World.cell?_setCell_same w ⟨g, k, none⟩ _ (hx k hj).1]
        simp
      · rw [World.cell?_setCell_other w ⟨g, k, none⟩ ⟨g, j, none⟩ _ (by intro h'; exact e (congrArg Addr.off h')), (hx j hj).1, List.getElem_set_ne e]
theorem wpList_append_ob {w : World} {ops : Array Oper} {rest : List Oper} {o : Oper} {a : Act} {Q : Exit → Act → World → Prop} (hg : o.guard = none) (s x : Operand)
    (hop : o.op = Op.call { callee := Callee.builtin Builtin.append, args := #[s, x], argTypes := #[23, 23] })
    (ti : TypeInfo) (hi : Try.prog.info? 5 = some ti) (hi0 : ti.zero = some (.int .u8 0)) (hi1 : ti.size = 1) (hi2 : ti.bytes = 1)
    (B : Nat) (v : Value) (L : List Int) (hs : a.eval s = v) (hO : Ob B w v L) (hl : L.length ≤ 4194404) (ad : Addr) (c : Nat) (y : Int) (hx : a.eval x = .slice (some ad) 1 c) (hc : w.cell? ad = some (.int .u8 y))
    (hK : ∀ g' cap' w' base, w'.ownsRow base 5 1 (.slice (some ⟨g', 0, none⟩) (L.length + 1) cap') (L.length + 1) ((L ++ [y]).map bv) → w.grownBy w' v.ownBlock → (v.ownBlock = some g' ∨ w.heap.size ≤ g') → (∀ g, v.ownBlock = some g → ∀ (j : Nat) (hj : j < L.length), w'.cell? ⟨g, j, none⟩ = some (.int .u8 L[j])) → wpList Try.prog ops Q rest (a.put o.dst (.slice (some ⟨g', 0, none⟩) (L.length + 1) cap')) w') :
    wpList Try.prog ops Q (o :: rest) a w := by
  have hcs : ∀ j u, [Value.int .u8 y][j]? = some u → w.cell? (ad.add j) = some u := by
    intro j u hu
    have hj : j = 0 := by have := (List.getElem?_eq_some_iff.1 hu).1; simp at this; omega
    subst hj
    simp at hu
    subst hu
    simpa [Addr.add] using hc
  have h1c : ∀ u ∈ [Value.int .u8 y], u.oneCell' = true := by intro u hu; simp at hu; subst hu; rfl
  have mine : ∀ base, w.ownsRow base 5 1 v L.length (L.map bv) → base ≤ w.heap.size → wpList Try.prog ops Q (o :: rest) a w := fun base ho hb =>
    wpList_append_mine w hg s x 23 hop base 5 ti _ 1 1 Try.underlying23 hi hi0 hi1 hi2 rfl (by decide) v L.length (L.map bv) hs ho ad 1 c [.int .u8 y] hx rfl hcs h1c (by decide) (by unfold maxLen; omega) (by omega) hb
      (fun g' cap' w' p1 p2 p3 p4 p5 => hK g' cap' w' base (by rw [List.map_append]; exact p1) p2 p3 (fun g hgv j hj => p4 g hgv j _ (by simp [hj, bv])))
  rcases hO with ⟨rfl, rfl⟩ | ⟨g, cap, rfl, h1, h2, h3, h4, h5⟩
  · exact mine w.heap.size (World.ownsRow_nil _ _ _ _) (Nat.le_refl _)
  · rcases h5 with ⟨base, ho⟩ | ⟨hcap, hxs⟩
    · exact mine base ho (by have := (own_at ho).2.1; omega)
    · refine wpList_append_grows w hg s x 23 hop 5 ti _ 1 1 Try.underlying23 hi hi0 hi1 hi2 rfl (by decide) (some ⟨g, 0, none⟩) L.length cap (L.map bv) hs (fun e => by cases e) (by simp) ?_ ad 1 c [.int .u8 y] hx rfl hcs h1c (by omega) (by unfold maxLen; omega) (by omega) ?_
      · intro b hb j u hu
        injection hb with hb
        subst hb
        have hj : j < L.length := by have := (List.getElem?_eq_some_iff.1 hu).1; simpa using this
        rw [Go.WideShapes.add_plain, Nat.zero_add, (hxs j hj).1]
        rw [List.getElem?_map, List.getElem?_eq_getElem hj] at hu
        simpa [bv] using hu
      · intro v' w' hown' hgrow
        obtain ⟨g', cap', rfl, hcap', hg', _⟩ := own_block hown' (by omega)
        refine hK g' cap' w' _ (by rw [List.map_append]; exact hown') ⟨hgrow.os, hgrow.tape, hgrow.output, hgrow.size, fun k hk _ => hgrow.block k hk (by simp)⟩ (.inr hg') ?_
        intro g1 hg1 j hj
        injection hg1 with hg1
        subst hg1
        exact (World.cell?_of_block (a := ⟨g, j, none⟩) (hgrow.block g h2 (by simp))).trans (hxs j hj).1
theorem own_by {S : Nat → Prop} {w : World} {base g cap n : Nat} {L : List Int} (h : w.ownsRow base 5 1 (.slice (some ⟨g, 0, none⟩) n cap) n (L.map bv)) (hS : S g) (hn : n ≤ 140737488355328) : By S w (.slice (some ⟨g, 0, none⟩) n cap) L := by
  obtain ⟨h1, h2, rfl, h4, -, h6⟩ := own_at h
  exact ⟨_, cap, rfl, h4, hn, fun e => (by cases e), .inr ⟨g, 0, rfl, hS, h1, fun i hi => by rw [Nat.zero_add]; exact h6 i hi⟩⟩
theorem own_byS {w : World} {base n : Nat} {v : Value} {L : List Int} (h : w.ownsRow base 5 1 v n (L.map bv)) (hn : n ≤ 140737488355328) : By (fun q => base ≤ q) w v L := by
  have hl : L.length = n := by have := h.1; simpa using this
  rcases h.2 with ⟨rfl, h0⟩ | ⟨g, cap, cur, rfl, h2, -⟩
  · have : L = [] := List.length_eq_zero_iff.1 (by omega)
    subst this
    exact ⟨none, 0, rfl, Nat.le_refl _, by simp, fun _ => rfl, .inl rfl⟩
  · exact own_by h h2 hn
theorem wrap8 (z : Int) (h : 0 ≤ z ∧ z ≤ 255) : IntKind.u8.wrap z = z := by
  unfold IntKind.wrap
  simp [IntKind.bits, IntKind.signed]
  omega
theorem own_free {w : World} {base e size g n cap : Nat} {xs : List Value} (h : w.ownsRow base e size (.slice (some ⟨g, 0, none⟩) n cap) n xs) : ∀ j, w.frozen? ⟨g, j, none⟩ = false := by
  rcases h.2 with ⟨h0, _⟩ | ⟨g', cap', cur, h1, h2, h3, _⟩
  · cases h0
  · injection h1 with e1
    injection e1 with e1
    injection e1 with e1
    subst e1
    intro j
    simp [World.frozen?, h3]
theorem Ob.form {B : Nat} {w : World} {v : Value} {L : List Int} (h : Ob B w v L) : ∃ a c, v = .slice a L.length c := by
  rcases h.val with ⟨rfl, rfl⟩ | ⟨g, cap, rfl⟩
  · exact ⟨none, 0, rfl⟩
  · exact ⟨_, _, rfl⟩
theorem Ob.below {B : Nat} {w w' : World} {v : Value} {L : List Int} (h : Ob B w v L) (hb : Below w.heap.size w w') : Ob B w' v L := h.keep hb.size (fun q hq => hb.block q (h.lt q hq).2)
theorem Ob.only {B : Nat} {T : Nat → Prop} {w w' : World} {v : Value} {L : List Int} (h : Ob B w v L) (ho : Only T w w') (hT : ∀ q, v.ownBlock = some q → ¬ T q) : Ob B w' v L := h.keep ho.size (fun q hq => ho.block q (h.lt q hq).2 (hT q hq))
theorem size5 (W : World) : (Go.sizeOf 5).run Try.prog W = .ok 1 W := by kernel_rfl
theorem slice_to (W : World) (h N cap ch : Nat) (hc : ch ≤ cap) : (Instr.slice 23 (.slice (some ⟨h, 0, none⟩) N cap) none (some (.int .i64 (ch : Int))) none).run Try.prog W = .ok (.slice (some ⟨h, 0, none⟩) ch cap) W := by
  have ht' : Try.prog.underlying 23 = some (.slice (Try.prog.elem 23)) := by simp [Program.elem, Try.underlying23]
  have he : Try.prog.elem 23 = 5 := by simp [Program.elem, Try.underlying23]
  rw [run_slice_h W 23 _ _ _ ht' .i64 _ (by omega) (by omega), he, size5 W]
  simp [Result.andThen, sliced, Addr.add]
theorem Ob.off {B : Nat} {w : World} {v : Value} {L : List Int} (h : Ob B w v L) : ∀ g o n p, v = .slice (some ⟨g, o, none⟩) n p → o = 0 := by
  intro g o n p e
  rcases h.val with ⟨e2, _⟩ | ⟨g', cap, e2⟩
  · rw [e2] at e; cases e
  · rw [e2] at e; injection e with e _ _; injection e with e; injection e with _ e _; exact e.symm
theorem only_bel {B : Nat} {T : Nat → Prop} {a w w' : World} (h : Below B a w) (ho : Only T w w') (hB : B ≤ a.heap.size) (hT : ∀ k, T k → B ≤ k) : Below B a w' := bel_only h ho hB (fun k hk ht => by have := hT k ht; omega)
end Go.Proofs.Ytahheagfgfpdmaa
