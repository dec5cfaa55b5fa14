import Derived.Test.YtbgfeogigjjmdaaHxA
import Derived.Laws.AppendOwn
import Derived.Deep.Upon
import Derived.Deep.AppendLies
import Derived.Laws.OwnMore
namespace Go.Proofs.Ytbgfeogigjjmdaa
open Go.RowKit
set_option linter.unusedVariables false
set_option linter.unusedSimpArgs false

theorem info50 : (Try.prog.info? 50).map (·.size) = some 2 := by kernel_rfl
theorem lies52 : liesAt Try.prog Try.prog.depth 52 (2 / Try.prog.cellsOf 52) 0 50 1 = true := by kernel_rfl
theorem info5 : (Try.prog.info? 5).map (fun i => (i.zero, i.size, i.bytes)) = some (some (.int .u8 0), 1, 1) := by kernel_rfl

set_option maxHeartbeats 1000000 in
set_option maxRecDepth 100000 in
theorem copyCheck_used (b : Nat) (w : World) (h0 : w.cell? ⟨b, 0, none⟩ = some (.pointer (some ⟨b, 0, none⟩))) :
    Calls Try.prog 39 #[.pointer (some ⟨b, 0, none⟩)] w fun e w' => e = .returned (.tuple #[]) ∧ w' = w := by
  obtain ⟨j, hj, _⟩ := Option.map_eq_some_iff.1 info50
  go_enter Try.func39, Try.ntmps39
  go_wp2
  rw [Lib.run_neq_ptr_same w _ Try.underlying48 hj]
  go_wp2
  go_end0
  exact ⟨rfl, rfl⟩
set_option maxHeartbeats 1000000 in
set_option maxRecDepth 100000 in
theorem copyCheck_fresh (b : Nat) (w : World) (h0 : w.cell? ⟨b, 0, none⟩ = some (.pointer none)) (hsh : w.shape? b = some (52, 2)) (hfz : w.frozen? ⟨b, 0, none⟩ = false) :
    Calls Try.prog 39 #[.pointer (some ⟨b, 0, none⟩)] w fun e w' => e = .returned (.tuple #[]) ∧ w' = w.setCell ⟨b, 0, none⟩ (.pointer (some ⟨b, 0, none⟩)) := by
  obtain ⟨j, hj, hjs⟩ := Option.map_eq_some_iff.1 info50
  go_enter Try.func39, Try.ntmps39
  go_wp2
  rw [Lib.run_to_unsafe w ⟨b, 0, none⟩ Try.underlying48 Try.underlying87 hj (by rw [hjs]; decide) hsh (Nat.zero_lt_succ 1)]
  simp only [Result.andThen]
  rw [Oper.upon_value]
  go_wp2
  rw [run_callFunc_extern Try.func49 (by kernel_rfl) (by kernel_rfl) (by kernel_rfl) (e := Extern.AbiNoEscape.same) (by kernel_rfl)]
  rw [Lib.run_noEscape]
  simp only [Result.andThen]
  rw [Oper.upon_value]
  go_wp2
  rw [Lib.run_from_unsafe w ⟨b, 0, none⟩ Try.underlying87 Try.underlying48 hj hsh lies52]
  simp only [Result.andThen]
  rw [Oper.upon_value]
  go_wp2
  go_end0
  exact ⟨rfl, rfl⟩
theorem own_slice {w : World} {base e size n : Nat} {v : Value} {xs : List Value} (h : w.ownsRow base e size v n xs) : ∃ a c, v = .slice a n c := by
  rcases h.2 with ⟨h, h0⟩ | ⟨g', c', _, h, _⟩
  · exact ⟨none, 0, by rw [h, h0]⟩
  · exact ⟨_, _, h⟩
/-- A block beside a builder: not its own, not its row's. -/
def Apart (b d : Nat) (w : World) : Prop := d ≠ b ∧ d < w.heap.size ∧ ∀ p v fr, w.heap[b]? = some (.cells #[p, v] 52 fr) → v.ownBlock ≠ some d
/-- What lies beside a builder stays. -/
def Kp (b : Nat) (w w' : World) : Prop := ∀ d, Apart b d w → Apart b d w' ∧ w'.heap[d]? = w.heap[d]?
theorem Kp.refl (b : Nat) (w : World) : Kp b w w := fun d h => ⟨h, rfl⟩
theorem Kp.trans {b : Nat} {a c d : World} (h : Kp b a c) (k : Kp b c d) : Kp b a d := fun i hi => ⟨(k i (h i hi).1).1, (k i (h i hi).1).2.trans (h i hi).2⟩
theorem Kp.below {b : Nat} {w w' : World} (hb : Below w.heap.size w w') (hlt : b < w.heap.size) : Kp b w w' := fun d h =>
  ⟨⟨h.1, Nat.lt_of_lt_of_le h.2.1 hb.size, fun p v fr e => h.2.2 p v fr (by rw [← hb.block b hlt]; exact e)⟩, hb.block d h.2.1⟩
theorem cells_inj {p v p' v' : Value} {T T' : TypeId} {f f' : Nat × Nat} (h : some (Obj.cells #[p, v] T f) = some (.cells #[p', v'] T' f')) : v = v' := by
  simp only [Option.some.injEq, Obj.cells.injEq, Array.mk.injEq, List.cons.injEq] at h
  exact h.1.2.1
theorem copyCheck_any (B b : Nat) (bs : List Value) (w : World) (h : Lib.IsBuilder 52 5 B b bs w) :
    Calls Try.prog 39 #[.pointer (some ⟨b, 0, none⟩)] w fun e w' => e = .returned (.tuple #[]) ∧ Lib.BuilderAt 52 5 B b (.pointer (some ⟨b, 0, none⟩)) bs w' ∧ Below B w w' ∧ Kp b w w' := by
  rcases h with h | h
  · refine (copyCheck_fresh b w h.cell0 h.shape h.frozen0).mono ?_
    rintro e w' ⟨rfl, rfl⟩
    refine ⟨rfl, h.used _, (Below.refl B w).setCell (p := ⟨b, 0, none⟩) h.1 _, ?_⟩
    obtain ⟨_, v, hbk, _⟩ := h
    intro d hd
    have e1 : (w.setCell ⟨b, 0, none⟩ (.pointer (some ⟨b, 0, none⟩))).heap[d]? = w.heap[d]? := Below.heap_setCell _ _ _ _ hd.1
    refine ⟨⟨hd.1, by simpa [World.setCell] using hd.2.1, fun p u fr hu => ?_⟩, e1⟩
    have e2 : (w.setCell ⟨b, 0, none⟩ (.pointer (some ⟨b, 0, none⟩))).heap[b]? = some (.cells #[.pointer (some ⟨b, 0, none⟩), v] 52 (0, 0)) := by
      rw [heap_setCell_same w b 0 _ 52 _ hbk]; rfl
    rw [e2] at hu
    rw [← cells_inj hu]
    exact hd.2.2 _ _ _ hbk
  · refine (copyCheck_used b w h.cell0).mono ?_
    rintro e w' ⟨rfl, rfl⟩
    exact ⟨rfl, h, Below.refl B _, Kp.refl _ _⟩

set_option maxHeartbeats 2000000 in
set_option maxRecDepth 100000 in
theorem writeByte_any (B b : Nat) (bs : List Value) (c : Int) (w : World) (h : Lib.IsBuilder 52 5 B b bs w) (hlen : bs.length + 1 ≤ 140737488355328) (hBw : B ≤ w.heap.size) :
    Calls Try.prog 25 #[.pointer (some ⟨b, 0, none⟩), .int .u8 c] w fun e w' => e = .returned .nilIface ∧ Lib.BuilderAt 52 5 B b (.pointer (some ⟨b, 0, none⟩)) (bs ++ [.int .u8 c]) w' ∧ Below B w w' ∧ Kp b w w' := by
  obtain ⟨i0, hi, hz0, hz1, hz2⟩ := info_parts info5
  have hCC := fun W (h : Lib.IsBuilder 52 5 B b bs W) => copyCheck_any B b bs W h
  have hq1 : Hid (bs.length + 1 ≤ maxLen) := by show _ ≤ _; unfold maxLen; omega
  have hq2 : Hid ((bs.length + 1) * 1 ≤ 140737488355328) := by show _ ≤ _; omega
  go_enter Try.func25, Try.ntmps25
  go_wp2_with (first
    | (go_at_call 39; (with_reducible refine (hCC _ h).mono ?_); rintro e w1 ⟨rfl, h1, hb1, hs1⟩; obtain ⟨hB, v, hbk, hown, hne⟩ := h1; have c0 : w1.cell? ⟨b, 0, none⟩ = some (.pointer (some ⟨b, 0, none⟩)) := (by rw [Lib.cell_of_heap hbk]; rfl); have c1 : w1.cell? ⟨b, 1, none⟩ = some v := (by rw [Lib.cell_of_heap hbk]; rfl); have hz := hb1.size; have hbl := (Array.getElem?_eq_some_iff.1 hbk).1)
    | (at_builtin; refine wpList_append_lies _ rfl _ _ 22 rfl B 5 i0 _ 1 1 Try.underlying22 hi hz0 hz1 hz2 rfl (by decide) v bs.length bs rfl (hown.alloc _) ⟨w1.heap.size, 0, none⟩ 1 1 [.int .u8 c] rfl rfl (fun j u hj => by rw [Go.WideShapes.add_plain, Nat.zero_add, (Has.new w1 #[.int .u8 c] 5 rfl).2.1 j]; simpa using hj) (fun u hu => by simp at hu; rw [hu]; rfl) (by decide) hq1.out hq2.out (by simp; omega) (w1.heap.size + 1) (by simp) ?_; intro g2 k2 w2 hown2 hgrow2 hat2 hlt2; have hbk2 : w2.heap[b]? = some (.cells #[.pointer (some ⟨b, 0, none⟩), v] 52 (0, 0)) := (hgrow2.block b (by simp; omega) (fun e => hne e.symm)).trans ((Below.heap_alloc _ _ _ hbl).trans hbk); have f0 : w2.frozen? ⟨b, 1, none⟩ = false := Lib.frozen_of_heap hbk2 1; have f1 : w2.cell? ⟨b, 1, none⟩ = some v := (by rw [Lib.cell_of_heap hbk2]; rfl); have hB2 := (hb1.alloc (by omega) (.cells #[.int .u8 c] 5)).grown hgrow2 (by simp; omega) (fun k hk => (hown.lt k hk).1)))
  go_ret
  refine ⟨rfl, Lib.BuilderAt.put hB hbk2 (by rw [List.length_append]; exact hown2) (by decide), hB2.setCell (p := ⟨b, 1, none⟩) hB _, hs1.trans ?_⟩
  intro d hd
  have hdv := hd.2.2 _ _ _ hbk
  have e1 : (w2.setCell ⟨b, 1, none⟩ (.slice (some ⟨g2, 0, none⟩) (bs.length + 1) k2)).heap[d]? = w2.heap[d]? := Below.heap_setCell _ _ _ _ hd.1
  have e2 : w2.heap[d]? = w1.heap[d]? := (hgrow2.block d (by have := hd.2.1; simp; omega) (fun e => hdv e.symm)).trans (Below.heap_alloc _ _ _ hd.2.1)
  have hsz2 := hgrow2.size
  refine ⟨⟨hd.1, by have := hd.2.1; simp [World.setCell] at hsz2 ⊢; omega, fun p u fr hu => ?_⟩, e1.trans e2⟩
  have e3 : (w2.setCell ⟨b, 1, none⟩ (.slice (some ⟨g2, 0, none⟩) (bs.length + 1) k2)).heap[b]? = some (.cells #[.pointer (some ⟨b, 0, none⟩), .slice (some ⟨g2, 0, none⟩) (bs.length + 1) k2] 52 (0, 0)) := by
    rw [heap_setCell_same w2 b 1 _ 52 _ hbk2]; rfl
  rw [e3] at hu
  rw [← cells_inj hu]
  intro e
  have e' : g2 = d := Option.some.inj e
  rcases hat2 with h | h
  · exact hdv (by rw [h, e'])
  · have := hd.2.1; omega

set_option maxHeartbeats 1000000 in
set_option maxRecDepth 100000 in
theorem string_any (B b : Nat) (l : List UInt8) (w : World) (h : Lib.IsBuilder 52 5 B b (Lib.byteCells l) w) (h0 : l ≠ []) :
    Calls Try.prog 17 #[.pointer (some ⟨b, 0, none⟩)] w fun e w' => e = .returned (.string ⟨l.toArray⟩) ∧ Below B w w' := by
  obtain ⟨p, hB, v, hbk, hown, hne⟩ : ∃ p, Lib.BuilderAt 52 5 B b p (Lib.byteCells l) w := by
    rcases h with h | h
    · exact ⟨_, h⟩
    · exact ⟨_, h⟩
  have hl0 : l.length ≠ 0 := by simpa using h0
  rw [Lib.byteCells_length] at hown
  obtain ⟨g, cap, cur, rfl, hbg, hg, hnc, hcm, hcs, htake⟩ : ∃ g cap cur, v = .slice (some ⟨g, 0, none⟩) l.length cap ∧ B ≤ g ∧ w.heap[g]? = some (.cells cur 5 (0, 0)) ∧ l.length ≤ cap ∧ cap ≤ maxLen ∧ cur.size = cap * 1 ∧ cur.toList.take (l.length * 1) = Lib.byteCells l := by
    rcases hown.2 with ⟨_, hz⟩ | ⟨g, cap, cur, hv, r⟩
    · exact absurd hz hl0
    · exact ⟨g, cap, cur, hv, r⟩
  have c1 : w.drew.cell? ⟨b, 1, none⟩ = some (.slice (some ⟨g, 0, none⟩) l.length cap) := by
    have : w.drew.heap[b]? = some (.cells #[p, .slice (some ⟨g, 0, none⟩) l.length cap] 52 (0, 0)) := hbk
    rw [Lib.cell_of_heap this]; rfl
  have hSD : (Builtin.unsafeSliceData_ #[22] 70 #[.slice (some ⟨g, 0, none⟩) l.length cap]).run Try.prog w.drew = .ok (.pointer (some ⟨g, 0, none⟩)) w.drew :=
    Lib.run_unsafeSliceData_row _ _ _ _ _ _ (by omega)
  have hUS : (Builtin.unsafeString_ #[70, 3] 9 #[.pointer (some ⟨g, 0, none⟩), .int .i64 l.length]).run Try.prog w.drew = .ok (.string ⟨l.toArray⟩) (w.drew.freeze ⟨g, 0, none⟩ l.length) := by
    refine Lib.run_unsafeString_row w.drew 70 3 9 5 Try.underlying70 (by kernel_rfl) g cur.size (by have hg' : w.drew.heap[g]? = some (.cells cur 5 (0, 0)) := hg; simp [World.shape?, hg']) l h0 (by omega) (by unfold maxLen at hcm; omega) ?_
    intro j x hx
    have := hown.cells (g := g) rfl j (.int .u8 x.toNat) (by simp [Lib.byteCells, hx])
    exact this
  go_enter Try.func17, Try.ntmps17
  go_wp2
  go_region
  all_goals (go_wp2; go_ret; exact ⟨rfl, Lib.below_freeze (Below.drew (Below.refl B w)) (p := ⟨g, 0, none⟩) hbg _⟩)
end Go.Proofs.Ytbgfeogigjjmdaa
