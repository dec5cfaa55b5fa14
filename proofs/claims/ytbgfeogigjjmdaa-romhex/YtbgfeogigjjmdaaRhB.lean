import Derived.Test.YtbgfeogigjjmdaaRhA
import Derived.Test.YtbgfeogigjjmdaaHyL
import Derived.Deep.RegionLaw
namespace Go.Proofs.Ytbgfeogigjjmdaa
open Go.RowKit
set_option linter.unusedVariables false

/-- What a growing row leaves alone: every other block; and the row lies in none of them. -/
def Rest (w w' : World) (v v' : Value) : Prop := ∀ d, d < w.heap.size → v.ownBlock ≠ some d → w'.heap[d]? = w.heap[d]? ∧ v'.ownBlock ≠ some d
theorem Rest.refl (w : World) (v : Value) : Rest w w v v := fun _ _ h => ⟨rfl, h⟩
theorem Rest.trans {w w' w'' : World} {v v' v'' : Value} (h : Rest w w' v v') (h' : Rest w' w'' v' v'') (hs : w.heap.size ≤ w'.heap.size) : Rest w w'' v v'' := fun d hd hv => by
  obtain ⟨h1, h2⟩ := h d hd hv
  obtain ⟨h3, h4⟩ := h' d (by omega) h2
  exact ⟨h3.trans h1, h4⟩

set_option maxRecDepth 100000 in
set_option maxHeartbeats 2000000 in
theorem hexByte_any (B : Nat) (X : List Nat) (v : Value) (x : Nat) (w : World) (hx : x < 256) (hown : w.ownsRow B 5 1 v X.length (v8 X)) (hB : B ≤ w.heap.size) (hl : X.length + 2 ≤ 140737488355328) :
    Calls Try.prog 22 #[v, .int .i64 (x : Int)] w fun e w' => ∃ v', e = .returned v' ∧ w'.ownsRow B 5 1 v' (X ++ h2 x).length (v8 (X ++ h2 x)) ∧ Below B w w' ∧ Rest w w' v v' := by
  have t1 : ∀ W : World, Sem.run Try.prog (Instr.index 9 (.string ⟨#[48, 49, 50, 51, 52, 53, 54, 55, 56, 57, 65, 66, 67, 68, 69, 70]⟩) (.int .i64 (((x : Int) / 16).tmod 16))) W = .ok (.int .u8 ((Go.Proofs.Ytbgfeogigjjmdaa.hl (x / 16) : Nat) : Int)) W := fun W => by
    rw [Int.tmod_eq_emod_of_nonneg (by omega), show (x : Int) / 16 % 16 = ((x / 16 : Nat) : Int) by omega]
    exact tab_i64 (x / 16) (by omega) W
  have t2 : ∀ W : World, Sem.run Try.prog (Instr.index 9 (.string ⟨#[48, 49, 50, 51, 52, 53, 54, 55, 56, 57, 65, 66, 67, 68, 69, 70]⟩) (.int .i64 ((x : Int).tmod 16))) W = .ok (.int .u8 ((Go.Proofs.Ytbgfeogigjjmdaa.hl (x % 16) : Nat) : Int)) W := fun W => by
    rw [Int.tmod_eq_emod_of_nonneg (by omega), show (x : Int) % 16 = ((x % 16 : Nat) : Int) by omega]
    exact tab_i64 (x % 16) (by omega) W
  have e1 : IntKind.i64.wrap ((x : Int) / 16) = (x : Int) / 16 := by rw [IntKind.wrap_i64]; omega
  have hh : Hid (v8 (X ++ h2 x) = v8 X ++ [.int .u8 ((Go.Proofs.Ytbgfeogigjjmdaa.hl (x / 16) : Nat) : Int), .int .u8 ((Go.Proofs.Ytbgfeogigjjmdaa.hl (x % 16) : Nat) : Int)]) := by
    show _ = _
    rw [v8_app]; rfl
  generalize Go.Proofs.Ytbgfeogigjjmdaa.hl (x / 16) = p at t1 hh
  generalize Go.Proofs.Ytbgfeogigjjmdaa.hl (x % 16) = q at t2 hh
  obtain ⟨i5, hi, hz0, hz1, hz2⟩ := info_parts info5
  have hq1 : Hid (X.length + 2 ≤ maxLen) := by show _ ≤ _; unfold maxLen; omega
  have hq2 : Hid ((X.length + 2) * 1 ≤ 140737488355328) := by show _ ≤ _; omega
  have hlen : Hid ((X ++ h2 x).length = X.length + 2) := by show _ = _; rw [List.length_append]; rfl
  go_enter Try.func22, Try.ntmps22
  go_wp2
  go_region_law (refine step_append_lies _ rfl _ _ 22 rfl B 5 i5 _ 1 1 Try.underlying22 hi hz0 hz1 hz2 rfl (by decide) v X.length (v8 X) rfl (World.ownsRow.drew (hown.alloc _)) ⟨w.heap.size, 0, none⟩ 2 2 [.int .u8 (p : Int), .int .u8 (q : Int)] rfl rfl (fun j u hj => by rw [Go.WideShapes.add_plain, Nat.zero_add, (Has.new w #[.int .u8 (p : Int), .int .u8 (q : Int)] 5 rfl).drew.2.1 j]; simpa using hj) (fun u hu => by simp at hu; rcases hu with rfl | rfl <;> rfl) (by decide) hq1.out hq2.out (by simp; omega) _ rfl ?_; intro g2 k2 w2 own2 hgr2 hat2 hlt2)
  all_goals
    go_wp2
    go_ret
    refine ⟨_, rfl, by rw [hlen.out, hh.out]; exact own2, (((Below.refl B w).alloc hB _).drew).grown hgr2 (by simp; omega) (fun k hk => (hown.lt k hk).1), fun d hd hv => ⟨?_, ?_⟩⟩
    · exact (hgr2.block d (by simp; omega) (fun e => hv e.symm)).trans (Below.heap_alloc _ _ _ hd)
    · intro e
      have e2 : g2 = d := Option.some.inj e
      subst e2
      rcases hat2 with h | h
      · exact hv h
      · simp at h; omega
end Go.Proofs.Ytbgfeogigjjmdaa
