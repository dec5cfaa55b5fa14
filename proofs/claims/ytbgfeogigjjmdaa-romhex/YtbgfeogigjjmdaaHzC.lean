import Derived.Test.YtbgfeogigjjmdaaHzB
namespace Go.Proofs.Ytbgfeogigjjmdaa
open Go.RowKit Go.Shelf
set_option linter.unusedVariables false
set_option linter.unusedSimpArgs false

set_option maxRecDepth 100000 in
set_option maxHeartbeats 2000000 in
theorem fromHex_cut (X : List UInt8) (w : World) (hX : X.length < 4611686018427387904) (st : Rd) (hr : runU st0 1 (cutU X) = .ok st) (hen : st.en = false) (ln col : Int) (hln : ln = (Lib.countByte X 10 : Nat) + 1) (hcol : col = ((bs X).size : Int) - Lib.lastIndexByte (bs X) 10) :
    Calls Try.prog 7 #[.string (bs X)] w fun e w' => e = .returned (.tuple #[.slice none 0 0, .agg #[.int .i64 103, .int .i64 ln, .int .i64 col]]) ∧ Below w.heap.size w w' := by
  have hmf : ∀ (fn : Fn) (first cap : Array Value) (w : World), (Instr.makeFunc fn first cap).run Try.prog w = .ok (.func fn first cap) w := fun _ _ _ _ => rfl
  have hA : Calls Try.prog 13 #[.pointer (some ⟨w.heap.size + 1, 0, none⟩), .string (bs X)] ((w.alloc (.cells #[.int .i64 0, .int .i64 0, .int .i64 0] 29)).alloc (.cells #[.int .i64 0, .slice none 0 0, .bool false, .bool false] 39)) fun e w' => e = pan 103 ln col ∧ Below (w.heap.size + 1) ((w.alloc (.cells #[.int .i64 0, .int .i64 0, .int .i64 0] 29)).alloc (.cells #[.int .i64 0, .slice none 0 0, .bool false, .bool false] 39)) w' := by
    refine (all_full (w.heap.size + 1) (w.heap.size + 1) X _ hX ?_ (Nat.le_refl _) (by simp)).mono ?_
    · have := heap_alloc_new (w.alloc (.cells #[.int .i64 0, .int .i64 0, .int .i64 0] 29)) (.cells #[.int .i64 0, .slice none 0 0, .bool false, .bool false] 39)
      rwa [World.size_alloc] at this
    · rintro e w' (⟨c', ln', col', rfl, h, hb⟩ | ⟨st', dv, h, he, _⟩ | ⟨st', h, _, hb, rfl⟩)
      · rw [hr] at h; cases h
      · rw [hr] at h
        injection h with h
        rw [← h, hen] at he; cases he
      · rw [hln, hcol]; exact ⟨rfl, hb⟩
  clear hln hcol
  go_enter_defers Try.func7, Try.ntmps7
  go_wp2_with (go_at_call 13; refine hA.mono ?_; rintro e w1 ⟨rfl, hb⟩)
  have h29 : w1.heap[w.heap.size]? = some (.cells #[.int .i64 0, .int .i64 0, .int .i64 0] 29 (0, 0)) := (hb.block _ (by simp)).trans ((Below.heap_alloc _ _ _ (by simp)).trans (heap_alloc_new w _))
  refine leaves_cons (f := 12) (args := #[.pointer (some ⟨w.heap.size, 0, none⟩)]) (by simp) (by simp [go_sem]) ?_
  refine (catch_pan w.heap.size 0 0 0 103 ln col _ h29).mono ?_
  rintro e u' w'' ⟨rfl, rfl, rfl⟩
  have hH : Has w1 w.heap.size #[.int .i64 0, .int .i64 0, .int .i64 0] := Has.ofHeap h29
  have hH3 := ((hH.set 0 (by simp) (.int .i64 103)).set 1 (by simp) (.int .i64 ln)).set 2 (by simp) (.int .i64 col)
  have d0 := hH3.2.1 0
  have d1 := hH3.2.1 1
  have d2 := hH3.2.1 2
  have hbb : Below w.heap.size w (((w1.setCell ⟨w.heap.size, 0, none⟩ (.int .i64 103)).setCell ⟨w.heap.size, 1, none⟩ (.int .i64 ln)).setCell ⟨w.heap.size, 2, none⟩ (.int .i64 col)) := (((((((Below.refl w.heap.size w).alloc (Nat.le_refl _) _).alloc (by simp) _).trans (hb.mono (by omega))).setCell (p := ⟨w.heap.size, 0, none⟩) (Nat.le_refl _) _).setCell (p := ⟨w.heap.size, 1, none⟩) (Nat.le_refl _) _).setCell (p := ⟨w.heap.size, 2, none⟩) (Nat.le_refl _) _)
  generalize ((w1.setCell ⟨w.heap.size, 0, none⟩ (.int .i64 103)).setCell ⟨w.heap.size, 1, none⟩ (.int .i64 ln)).setCell ⟨w.heap.size, 2, none⟩ (.int .i64 col) = U at *
  refine ⟨.tuple #[.slice none 0 0, .agg #[.int .i64 103, .int .i64 ln, .int .i64 col]], ?_, rfl, hbb⟩
  simp [results, Try.results7, go_sem, d0, d1, d2]

end Go.Proofs.Ytbgfeogigjjmdaa
