import Derived.Test.YtjohnhaahpggkaaDoorPcsX
import Derived.Test.YtjohnhaahpggkaaDoorPcsG
import Derived.Test.YtjohnhaahpggkaaDoorPcsI
import Derived.Test.YtjohnhaahpggkaaDoorPcsH
import Derived.Test.YtjohnhaahpggkaaDoorPcsK
namespace Go.Proofs.YtjohnhaahpggkaaDoor
open Go.RowKit
set_option linter.unusedVariables false
set_option linter.unusedSimpArgs false

theorem token_any (p : Pc) (W : World) (hp : p.Ok) (hK : Kw W) (hM : Mk W) :
    Calls Tryd.prog 31 #[.agg #[.int .i64 p.wh, .int .i64 p.n, .string p.tx]] W fun e w' => (∃ tk l is, e = .returned (.tuple #[tokV tk 0 0, .string (bs l), .bool is]) ∧ Pce tk l is) ∧ Below W.heap.size W w' := by
  obtain ⟨⟨a1, a2⟩, ⟨b1, b2⟩, c⟩ := hp
  have h8 : p.wh % 8 = 0 ∨ p.wh % 8 = 1 ∨ p.wh % 8 = 2 ∨ p.wh % 8 = 3 ∨ p.wh % 8 = 4 ∨ p.wh % 8 = 5 ∨ p.wh % 8 = 6 ∨ p.wh % 8 = 7 := by omega
  rcases h8 with h | h | h | h | h | h | h | h
  · exact token_zero p.wh p.n p.tx W a1 a2 b1 b2 h
  · exact token_num1 p.wh p.n p.tx W a1 a2 b1 b2 h
  · exact token_num2 p.wh p.n p.tx W a1 a2 b1 b2 h
  · exact token_num3 p.wh p.n p.tx W a1 a2 b1 b2 h
  · exact token_kw p.wh p.n p.tx W a1 a2 b1 b2 hK h
  · exact token_sg p.wh p.n p.tx W a1 a2 b1 b2 hM h
  · exact token_blank p.wh p.n p.tx W a1 a2 b1 b2 h
  · exact token_rem p.wh p.n p.tx W a1 a2 b1 b2 c h
theorem written_of (L : List Pc) (v : Value) (w : World) (hP : Pl w v L) (hok : ∀ p ∈ L, p.Ok) (hlen : L.length ≤ 4611686018427387904) (hK : Kw w) (hM : Mk w) : Calls Tryd.prog 16 #[v] w (WrPost w) :=
  written_any L v w hP hok hlen (fun p W hp hb => token_any p W hp (hK.below hb hK.1) (hM.below hb hM.1))
end Go.Proofs.YtjohnhaahpggkaaDoor
