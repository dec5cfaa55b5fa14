import Derived.Test.YtbgfeogigjjmdaaHxS
import Derived.Recover
namespace Go.Proofs.Ytbgfeogigjjmdaa
open Go.RowKit Go.Shelf
set_option linter.unusedVariables false
set_option linter.unusedSimpArgs false

theorem as29 (v : Value) (w : World) : (Instr.typeAssert (.iface 29 v) 20 29 false).run Try.prog w = .ok v w := by kernel_rfl

set_option maxRecDepth 100000 in
set_option maxHeartbeats 2000000 in
theorem catch_pan (b : Nat) (x y z c ln col : Int) (w : World) (h : w.heap[b]? = some (.cells #[.int .i64 x, .int .i64 y, .int .i64 z] 29 (0, 0))) :
    CallsD Try.prog 12 #[.pointer (some ⟨b, 0, none⟩)] (.panicking [{ v := .iface 29 (.agg #[.int .i64 c, .int .i64 ln, .int .i64 col]), recovered := false }]) w fun e u' w' =>
      e = .returned (.tuple #[]) ∧ u' = .panicking [{ v := .iface 29 (.agg #[.int .i64 c, .int .i64 ln, .int .i64 col]), recovered := true }] ∧ w' = ((w.setCell ⟨b, 0, none⟩ (.int .i64 c)).setCell ⟨b, 1, none⟩ (.int .i64 ln)).setCell ⟨b, 2, none⟩ (.int .i64 col) := by
  obtain ⟨h0, h1, h2⟩ := Has.ofHeap h
  have c0 := h1 0
  have c1 := h1 1
  have c2 := h1 2
  have f0 := h2 0
  have f1 := h2 1
  have f2 := h2 2
  have hta := as29 (.agg #[.int .i64 c, .int .i64 ln, .int .i64 col]) w
  refine callsD_of_wpS Try.func12 rfl fun c₀ cs hu => ?_
  apply wpS_seq
  apply wpS_region
  simp [wpOpsS, go_sem, recoverD, hu, Try.ntmps12, Exit.thenS]
  refine wpS_of_wp ?_
  simp only [Try.ntmps12, List.size_toArray, List.length_cons, List.length_nil, Nat.reduceAdd, Nat.reduceSub, Array.replicate_succ, Array.replicate_zero, List.push_toArray, List.append_toArray, List.nil_append, List.cons_append]
  go_wp2
  refine ⟨rfl, _, rfl, .tuple #[], ?_, rfl, rfl, rfl⟩
  simp [results, Try.results12, go_sem]

theorem catch_idle (b : Nat) (w : World) :
    CallsD Try.prog 12 #[.pointer (some ⟨b, 0, none⟩)] .returning w fun e u' w' => e = .returned (.tuple #[]) ∧ u' = .returning ∧ w' = w := by
  refine callsD_of_wpS Try.func12 rfl fun c₀ cs hu => ?_
  apply wpS_seq
  apply wpS_region
  simp [wpOpsS, go_sem, recoverD, hu, Try.ntmps12, Exit.thenS]
  refine wpS_of_wp ?_
  simp only [Try.ntmps12, List.size_toArray, List.length_cons, List.length_nil, Nat.reduceAdd, Nat.reduceSub, Array.replicate_succ, Array.replicate_zero, List.push_toArray, List.append_toArray, List.nil_append, List.cons_append]
  go_wp2
  cases c₀
  simp_all [bodyPostS, results, Try.results12, go_sem]

set_option maxRecDepth 100000 in
set_option maxHeartbeats 2000000 in
theorem fromHex_bad (X : List UInt8) (w : World) (hX : X.length < 4611686018427387904) (c ln col : Nat) (hr : runU st0 1 (cutU X) = .error (c, ln, col)) :
    Calls Try.prog 7 #[.string (bs X)] w fun e w' => e = .returned (.tuple #[.slice none 0 0, .agg #[.int .i64 (c : Nat), .int .i64 (ln : Nat), .int .i64 (col : Nat)]]) ∧ Below w.heap.size w w' := by
  have hmf : ∀ (fn : Fn) (first cap : Array Value) (w : World), (Instr.makeFunc fn first cap).run Try.prog w = .ok (.func fn first cap) w := fun _ _ _ _ => rfl
  have hA : Calls Try.prog 13 #[.pointer (some ⟨w.heap.size + 1, 0, none⟩), .string (bs X)] ((w.alloc (.cells #[.int .i64 0, .int .i64 0, .int .i64 0] 29)).alloc (.cells #[.int .i64 0, .slice none 0 0, .bool false, .bool false] 39)) fun e w' => e = pan (c : Nat) (ln : Nat) (col : Nat) ∧ Below (w.heap.size + 1) ((w.alloc (.cells #[.int .i64 0, .int .i64 0, .int .i64 0] 29)).alloc (.cells #[.int .i64 0, .slice none 0 0, .bool false, .bool false] 39)) w' := by
    refine (all_any (w.heap.size + 1) (w.heap.size + 1) X _ hX ?_ (Nat.le_refl _) (by simp) (fun st h => by rw [hr] at h; cases h)).mono ?_
    · have := heap_alloc_new (w.alloc (.cells #[.int .i64 0, .int .i64 0, .int .i64 0] 29)) (.cells #[.int .i64 0, .slice none 0 0, .bool false, .bool false] 39)
      rwa [World.size_alloc] at this
    · rintro e w' (⟨c', ln', col', rfl, h, hb⟩ | ⟨st, dv, h, _⟩)
      · rw [hr] at h
        injection h with h
        obtain ⟨h7, h⟩ := Prod.mk.inj h
        obtain ⟨h8, h9⟩ := Prod.mk.inj h
        subst h7 h8 h9
        exact ⟨rfl, hb⟩
      · rw [hr] at h; cases h
  go_enter_defers Try.func7, Try.ntmps7
  go_wp2_with (go_at_call 13; refine hA.mono ?_; rintro e w1 ⟨rfl, hb⟩)
  have h29 : w1.heap[w.heap.size]? = some (.cells #[.int .i64 0, .int .i64 0, .int .i64 0] 29 (0, 0)) := (hb.block _ (by simp)).trans ((Below.heap_alloc _ _ _ (by simp)).trans (heap_alloc_new w _))
  refine leaves_cons (f := 12) (args := #[.pointer (some ⟨w.heap.size, 0, none⟩)]) (by simp) (by simp [go_sem]) ?_
  refine (catch_pan w.heap.size 0 0 0 c ln col _ h29).mono ?_
  rintro e u' w'' ⟨rfl, rfl, rfl⟩
  have hH : Has w1 w.heap.size #[.int .i64 0, .int .i64 0, .int .i64 0] := Has.ofHeap h29
  have hH3 := ((hH.set 0 (by simp) (.int .i64 (c : Nat))).set 1 (by simp) (.int .i64 (ln : Nat))).set 2 (by simp) (.int .i64 (col : Nat))
  have d0 := hH3.2.1 0
  have d1 := hH3.2.1 1
  have d2 := hH3.2.1 2
  have hbb : Below w.heap.size w (((w1.setCell ⟨w.heap.size, 0, none⟩ (.int .i64 (c : Nat))).setCell ⟨w.heap.size, 1, none⟩ (.int .i64 (ln : Nat))).setCell ⟨w.heap.size, 2, none⟩ (.int .i64 (col : Nat))) := (((((((Below.refl w.heap.size w).alloc (Nat.le_refl _) _).alloc (by simp) _).trans (hb.mono (by omega))).setCell (p := ⟨w.heap.size, 0, none⟩) (Nat.le_refl _) _).setCell (p := ⟨w.heap.size, 1, none⟩) (Nat.le_refl _) _).setCell (p := ⟨w.heap.size, 2, none⟩) (Nat.le_refl _) _)
  generalize ((w1.setCell ⟨w.heap.size, 0, none⟩ (.int .i64 (c : Nat))).setCell ⟨w.heap.size, 1, none⟩ (.int .i64 (ln : Nat))).setCell ⟨w.heap.size, 2, none⟩ (.int .i64 (col : Nat)) = U at *
  refine ⟨.tuple #[.slice none 0 0, .agg #[.int .i64 (c : Nat), .int .i64 (ln : Nat), .int .i64 (col : Nat)]], ?_, rfl, hbb⟩
  simp [results, Try.results7, go_sem, d0, d1, d2]

set_option maxRecDepth 100000 in
set_option maxHeartbeats 2000000 in
theorem fromHex_ok (X : List UInt8) (w : World) (hX : X.length < 4611686018427387904) (st : Rd) (hr : runU st0 1 (cutU X) = .ok st) (hen : st.en = true) :
    Calls Try.prog 7 #[.string (bs X)] w fun e w' => ∃ dv, e = .returned (.tuple #[dv, .agg #[.int .i64 0, .int .i64 0, .int .i64 0]]) ∧ Below w.heap.size w w' ∧ w'.ownsRow w.heap.size 5 1 dv st.D.length (v8 st.D) := by
  have hmf : ∀ (fn : Fn) (first cap : Array Value) (w : World), (Instr.makeFunc fn first cap).run Try.prog w = .ok (.func fn first cap) w := fun _ _ _ _ => rfl
  have hA : Calls Try.prog 13 #[.pointer (some ⟨w.heap.size + 1, 0, none⟩), .string (bs X)] ((w.alloc (.cells #[.int .i64 0, .int .i64 0, .int .i64 0] 29)).alloc (.cells #[.int .i64 0, .slice none 0 0, .bool false, .bool false] 39)) fun e w' => ∃ dv, e = .returned dv ∧ Below (w.heap.size + 1) ((w.alloc (.cells #[.int .i64 0, .int .i64 0, .int .i64 0] 29)).alloc (.cells #[.int .i64 0, .slice none 0 0, .bool false, .bool false] 39)) w' ∧ w'.ownsRow (w.heap.size + 1) 5 1 dv st.D.length (v8 st.D) := by
    refine (all_any (w.heap.size + 1) (w.heap.size + 1) X _ hX ?_ (Nat.le_refl _) (by simp) (fun st' h => by rw [hr] at h; injection h with h; rw [← h]; exact hen)).mono ?_
    · have := heap_alloc_new (w.alloc (.cells #[.int .i64 0, .int .i64 0, .int .i64 0] 29)) (.cells #[.int .i64 0, .slice none 0 0, .bool false, .bool false] 39)
      rwa [World.size_alloc] at this
    · rintro e w' (⟨c', ln', col', rfl, h, hb⟩ | ⟨st', dv, h, hb, rfl, hw⟩)
      · rw [hr] at h; cases h
      · rw [hr] at h
        injection h with h
        subst h
        exact ⟨dv, rfl, hb, hw⟩
  go_enter_defers Try.func7, Try.ntmps7
  go_wp2_with (go_at_call 13; refine hA.mono ?_; rintro e w1 ⟨dv, rfl, hb, hw⟩; have h29 : w1.heap[w.heap.size]? = some (.cells #[.int .i64 0, .int .i64 0, .int .i64 0] 29 (0, 0)) := (hb.block _ (by simp)).trans ((Below.heap_alloc _ _ _ (by simp)).trans (heap_alloc_new w _)); have g0 := (Has.ofHeap h29).2.1 0; have g1 := (Has.ofHeap h29).2.1 1; have g2 := (Has.ofHeap h29).2.1 2; have k0 := (Has.ofHeap h29).2.2 0; have k1 := (Has.ofHeap h29).2.2 1; have k2 := (Has.ofHeap h29).2.2 2)
  refine leaves_cons (f := 12) (args := #[.pointer (some ⟨w.heap.size, 0, none⟩)]) (by simp) (by simp [go_sem]) ?_
  refine (catch_idle w.heap.size _).mono ?_
  rintro e u' w'' ⟨rfl, rfl, rfl⟩
  have hH : Has w1 w.heap.size #[.int .i64 0, .int .i64 0, .int .i64 0] := Has.ofHeap h29
  have hH3 := ((hH.set 0 (by simp) (.int .i64 0)).set 1 (by simp) (.int .i64 0)).set 2 (by simp) (.int .i64 0)
  have d0 := hH3.2.1 0
  have d1 := hH3.2.1 1
  have d2 := hH3.2.1 2
  have hO := (((Only.refl (fun k => k = w.heap.size) w1).set (b := w.heap.size) (i := 0) rfl (.int .i64 0)).set (b := w.heap.size) (i := 1) rfl (.int .i64 0)).set (b := w.heap.size) (i := 2) rfl (.int .i64 0)
  have hw2 := own_kept hw hO (fun g hg e => by subst e; have := hw.2; rcases this with ⟨e0, _⟩ | ⟨g', cap, cur, e1, h5, _⟩
                                               · rw [e0] at hg; cases hg
                                               · rw [e1] at hg; have e5 : g' = w.heap.size := Option.some.inj hg; omega)
  have hbb : Below w.heap.size w (((w1.setCell ⟨w.heap.size, 0, none⟩ (.int .i64 0)).setCell ⟨w.heap.size, 1, none⟩ (.int .i64 0)).setCell ⟨w.heap.size, 2, none⟩ (.int .i64 0)) := (((((((Below.refl w.heap.size w).alloc (Nat.le_refl _) _).alloc (by simp) _).trans (hb.mono (by omega))).setCell (p := ⟨w.heap.size, 0, none⟩) (Nat.le_refl _) _).setCell (p := ⟨w.heap.size, 1, none⟩) (Nat.le_refl _) _).setCell (p := ⟨w.heap.size, 2, none⟩) (Nat.le_refl _) _)
  generalize ((w1.setCell ⟨w.heap.size, 0, none⟩ (.int .i64 0)).setCell ⟨w.heap.size, 1, none⟩ (.int .i64 0)).setCell ⟨w.heap.size, 2, none⟩ (.int .i64 0) = U at *
  refine ⟨.tuple #[dv, .agg #[.int .i64 0, .int .i64 0, .int .i64 0]], ?_, dv, rfl, hbb, ⟨hw2.1, hw2.2.imp id (fun ⟨g', cap, cur, h1, h2, h3, h4⟩ => ⟨g', cap, cur, h1, by omega, h3, h4⟩)⟩⟩
  simp [results, Try.results7, go_sem, d0, d1, d2]
end Go.Proofs.Ytbgfeogigjjmdaa
