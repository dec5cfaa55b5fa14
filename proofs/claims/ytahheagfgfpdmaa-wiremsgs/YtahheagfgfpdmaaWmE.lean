import Derived.Test.YtahheagfgfpdmaaWmE0
import Derived.Test.YtahheagfgfpdmaaWmE1
import Derived.Test.YtahheagfgfpdmaaWmE2
import Derived.Test.YtahheagfgfpdmaaWmE3
import Derived.Test.YtahheagfgfpdmaaWmE4
namespace Go.Proofs.Ytahheagfgfpdmaa
open Go.RowKit
set_option linter.unusedVariables false
set_option linter.unusedSimpArgs false

theorem wfm_any (k s n u : Int) (l c : Nat) (va : Option Addr) (w : World) (hl : l ≤ 140737488355328) : Calls Try.prog 17 #[.agg #[.int .i64 k, .int .i64 s, .int .u32 n, .int .u32 u, .slice va l c]] w fun e w' => e = .returned (.bool (fmB k s n u l)) ∧ Below w.heap.size w w' := by
  by_cases h1 : k = 1
  · subst h1; exact wfm1 s n u l c va w hl
  by_cases h12 : k = 12
  · subst h12; exact wfm12 s n u l c va w hl
  by_cases h2 : k = 2
  · subst h2; exact wfm2 s n u l c va w hl
  by_cases h3 : k = 3
  · subst h3; exact wfm3 s n u l c va w hl
  by_cases h6 : k = 6
  · subst h6; exact wfm6 s n u l c va w hl
  by_cases h10 : k = 10
  · subst h10; exact wfm10 s n u l c va w hl
  by_cases h4 : k = 4
  · subst h4; exact wfm4 s n u l c va w hl
  by_cases h5 : k = 5
  · subst h5; exact wfm5 s n u l c va w hl
  by_cases h11 : k = 11
  · subst h11; exact wfm11 s n u l c va w hl
  exact wfm0 k s n u l c va w hl h1 h12 h2 h3 h6 h10 h4 h5 h11
end Go.Proofs.Ytahheagfgfpdmaa
