import Derived.Test.YtjohnhaahpggkaaDoorRefB
import Derived.Test.YtjohnhaahpggkaaDoorRefC
namespace Go.Proofs.YtjohnhaahpggkaaDoor
open Go.RowKit
set_option linter.unusedVariables false

set_option maxRecDepth 100000 in
set_option maxHeartbeats 1000000 in
theorem cut_long (s : ByteArray) (z : Tok) (w : World) (hs : 65536 < s.size) (hz : z = longTok) :
    Calls Tryd.prog 27 #[.string s] w fun e w' => (∃ v f, e = .returned (.tuple #[v, .agg f]) ∧ CutPost w.heap.size [] z v f w') ∧ Below w.heap.size w w' := by
  have hs' : (65536 : Int) < (s.size : Int) := by omega
  go_enter Tryd.func27, Tryd.ntmps27
  go_wp2
  have hX : Has (w.alloc (.cells #[.int .i64 20, .int .i64 0, .int .i64 0] 42)) w.heap.size #[.int .i64 20, .int .i64 0, .int .i64 0] := Has.new _ _ _ rfl
  obtain ⟨x0, X1, x2⟩ := hX
  refine bodyPost_ret (v := .tuple #[.slice none 0 0, .agg #[.int .i64 20, .int .i64 0, .int .i64 0]]) (by simp [results, Tryd.results27, go_sem, X1]) rfl ⟨⟨_, _, rfl, .inl ⟨by rw [hz]; rfl, World.ownsRow_nil _ _ _ _, by rw [hz]; rfl⟩⟩, (Below.refl _ _).alloc (Nat.le_refl _) _⟩

theorem one_any (s : ByteArray) (i : Nat) (w : World) (hs : s.size < 4611686018427387904) (hi : i < s.size) (hK : Kt w) (hS : St w) :
    Calls Tryd.prog 47 #[.string s, .int .i64 i] w fun e w' => (∃ tk en er, e = .returned (.tuple #[tokV tk 0 0, .int .i64 en, .int .i64 er]) ∧ OneRes (firstTk (s.data.toList.drop i)) i tk en er) ∧ Below w.heap.size w w' := by
  cases hL : isL s[i] with
  | true => exact one_letter s i w hs hi hK hS hL
  | false =>
    cases hD : isD s[i] with
    | true => exact one_digit s i w hs hi hL hD
    | false => exact one_sign s i w hs hi hS hL hD

theorem cut_any (s : ByteArray) (ts : List Tok) (z : Tok) (w : World) (hWh : Whole s ts z) (hlen : ts.length ≤ 65536) (hK : Kt w) (hS : St w) :
    Calls Tryd.prog 27 #[.string s] w fun e w' => (∃ v f, e = .returned (.tuple #[v, .agg f]) ∧ CutPost w.heap.size ts z v f w') ∧ Below w.heap.size w w' := by
  rcases hWh with ⟨h1, h2⟩ | ⟨h1, rfl, h2⟩
  · exact cut_short s ts z w h1 h2 hlen hS.1 hK hS (fun i h W k1 k2 => one_any s i W (by omega) h k1 k2)
  · exact cut_long s z w h1 h2
end Go.Proofs.YtjohnhaahpggkaaDoor
