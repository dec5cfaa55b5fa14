import Derived.Test.YtddphepgcihdbaaGreatTdH
import Derived.Test.YtddphepgcihdbaaGreatTdB
namespace Go.Proofs.YtddphepgcihdbaaGreat
open Go.RowKit
set_option linter.unusedVariables false
set_option linter.unusedSimpArgs false

theorem er_zero {t : Tt} {n most : Int} (h : erF t n most = 0) : t.err = 0 ∧ 0 ≤ n ∧ n ≤ most := by
  unfold erF at h
  split at h
  · rename_i h0
    split at h
    · rename_i h1; exact ⟨h0, h1⟩
    · omega
  · rename_i h0; exact absurd h h0
def loA (t : Tt) (m : Int) : Int := if erF t m 210379679 = 0 then loF m (plG m t.H) else 0
def knA (t : Tt) (d : Int) : Int := if erF t d 146096 = 0 then knF t d else 0
def atA (t : Tt) (m : Int) : Int := if erF t m 210379679 = 0 then slF t m else 0
theorem ret_ii {a b c d : Int} (h : a = b) (h2 : c = d) : Ending.returned (.tuple #[.int .i64 a, .int .i64 c]) = .returned (.tuple #[.int .i64 b, .int .i64 d]) := by rw [h, h2]
end Go.Proofs.YtddphepgcihdbaaGreat
