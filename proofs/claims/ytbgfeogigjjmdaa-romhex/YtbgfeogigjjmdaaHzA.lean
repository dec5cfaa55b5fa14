import Derived.Test.YtbgfeogigjjmdaaHxT
import Derived.Lib.LastIndexByte
namespace Go.Proofs.Ytbgfeogigjjmdaa
open Go.RowKit
set_option linter.unusedVariables false

theorem last_bd (s : ByteArray) (c : Int) : -1 ≤ Lib.lastIndexByte s c ∧ Lib.lastIndexByte s c < s.size := by
  rcases Lib.lastIndexByte_spec s c with ⟨h, _⟩ | ⟨i, hi, h⟩
  · omega
  · have := hi; omega

theorem extract_all (s : ByteArray) : s.extract 0 s.size = s := by
  apply ByteArray.ext
  rw [ByteArray.data_extract]
  show s.data.extract 0 s.data.size = s.data
  simp
theorem count_le (s : ByteArray) : Lib.countByte s.data.toList 10 ≤ s.size := by
  unfold Lib.countByte
  show _ ≤ s.data.size
  rw [← Array.length_toList]
  exact List.count_le_length

set_option maxRecDepth 100000 in
set_option maxHeartbeats 1000000 in
/-- lex.Place at the text's end. -/
theorem place_end (s : ByteArray) (w : World) (hs : s.size < 4611686018427387904) :
    Calls Try.prog 21 #[.string s, .int .i64 (s.size : Int)] w fun e w' => e = .returned (.agg #[.int .i64 ((Lib.countByte s.data.toList 10 : Nat) + 1), .int .i64 ((s.size : Int) - Lib.lastIndexByte s 10)]) ∧ Below w.heap.size w w' := by
  have h1 : ¬ (s.size : Int) < 0 := by omega
  have hx : s.extract 0 s.size = s := extract_all s
  have hC := fun w => Try.strings_Count_one s 10 w
  have hL := fun w => Try.strings_LastIndexByte s 10 hs w
  have b1 : Lib.countByte s.data.toList 10 ≤ s.size := by
    exact count_le s
  have b2 := last_bd s 10
  generalize Lib.countByte s.data.toList 10 = c at hC b1
  generalize Lib.lastIndexByte s 10 = l at hL b2
  go_enter Try.func21, Try.ntmps21
  go_wp2_with (first
    | (go_at_call 36; refine (hC _).mono ?_; rintro e w' ⟨rfl, hwe⟩; subst hwe)
    | (go_at_call 37; refine (hL _).mono ?_; rintro e w' ⟨rfl, hwe⟩; subst hwe))
  exact bodyPost_ret (v := .agg #[.int .i64 ((c : Int) + 1), .int .i64 ((s.size : Int) - l)]) (by simp [results, Try.results21, go_sem]) rfl ⟨rfl, (Below.refl _ _).alloc (Nat.le_refl _) _⟩
end Go.Proofs.Ytbgfeogigjjmdaa
