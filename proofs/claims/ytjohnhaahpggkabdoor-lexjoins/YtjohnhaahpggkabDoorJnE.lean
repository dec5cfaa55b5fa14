import Derived.Test.YtjohnhaahpggkabDoorJnD
namespace Go.Proofs.YtjohnhaahpggkabDoor
open Go.RowKit
set_option linter.unusedVariables false
set_option linter.unusedSimpArgs false

/-- What Spelled answers. -/
def SpPost (t : Tq) (w : World) (e : Ending) (w' : World) : Prop := (∃ s, e = .returned (.tuple #[.string s, .bool (okF t true)]) ∧ (okF t true = true → s = spF t)) ∧ Below w.heap.size w w'

set_option maxRecDepth 100000 in
set_option maxHeartbeats 4000000 in
theorem spelled_name (n : Int) (tx : ByteArray) (ln cl : Int) (w : World) (hs : tx.size < 4611686018427387904) (hK : Kt w) (hS : St w) :
    Calls Tryd.prog 21 #[.agg #[.int .i64 1, .int .i32 n, .string tx, .int .i64 ln, .int .i64 cl]] w (SpPost ⟨1, n, tx, ln, cl⟩ w) := by
  have hb0 : Below w.heap.size w (w.alloc (.cells #[.int .i64 1, .int .i32 n, .string tx, .int .i64 ln, .int .i64 cl] 27)) := (Below.refl _ _).alloc (Nat.le_refl _) _
  have hQ : Has (w.alloc (.cells #[.int .i64 1, .int .i32 n, .string tx, .int .i64 ln, .int .i64 cl] 27)) w.heap.size #[.int .i64 1, .int .i32 n, .string tx, .int .i64 ln, .int .i64 cl] := Has.new _ _ _ rfl
  have hF : okF ⟨1, n, tx, ln, cl⟩ true = (decide (n = 0) && decide (kindL tx.data.toList = 1)) := rfl
  have hsp : spF ⟨1, n, tx, ln, cl⟩ = tx := rfl
  unfold SpPost
  rw [hF, hsp]
  clear hF hsp
  have hKi := fun W (h : Below w.heap.size w W) => refKindOf_any tx W hs (hK.below h hK.1) (hS.below h hS.1)
  generalize kindL tx.data.toList = kk at *
  by_cases hn : n = 0
  · subst hn
    have hKd := hKi _ hb0.drew
    clear hKi
    go_enter Tryd.func21, Tryd.ntmps21
    go_wp2
    generalize (w.alloc (.cells #[.int .i64 1, .int .i32 0, .string tx, .int .i64 ln, .int .i64 cl] 27)) = U at *
    obtain ⟨q0, Q1, q2⟩ := id hQ
    go_region_with (go_at_call 32; (with_reducible refine hKd.mono ?_); rintro e w1 ⟨rfl, hb1⟩; have hQ1 := (show Has U.drew w.heap.size _ from hQ).below hb1; obtain ⟨r0, R1, r2⟩ := id hQ1; have hB1 := hb0.drew.trans (hb1.mono hb0.drew.size))
    all_goals
      go_wp2
      exact bodyPost_ret (v := .tuple #[.string tx, .bool (decide (kk = 1))]) (by simp [results, Tryd.results21, go_sem] <;> rfl) rfl ⟨⟨tx, by simp, fun _ => rfl⟩, hB1⟩
  · have hn' : decide (n = 0) = false := by simpa using hn
    have hn2 : (n == 0) = false := by simpa using hn
    clear hKi
    go_enter Tryd.func21, Tryd.ntmps21
    go_wp2
    go_quiet (fail)
    go_wp2
    exact bodyPost_ret (v := .tuple #[.string tx, .bool false]) (by simp [results, Tryd.results21, go_sem]) rfl ⟨⟨tx, by simp [hn], fun _ => rfl⟩, bel_drewN hb0⟩
end Go.Proofs.YtjohnhaahpggkabDoor
