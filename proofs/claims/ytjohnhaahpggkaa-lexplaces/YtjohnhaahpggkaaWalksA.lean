import Derived.Test.YtjohnhaahpggkaaMath
import Derived.Test.YtjohnhaahpggkaaProg
import Derived.ProofKit
import Derived.WalkKit
import Derived.Below
import Derived.WalkSmall
import Derived.Deep.LoopGhost
import Derived.Deep.CutRange
import Derived.Deep.RegionWith
import Derived.Deep.Light
namespace Go.Proofs.Ytjohnhaahpggkaa
open Go.RowKit
set_option linter.unusedVariables false

/-- Block b holds just these cells, and may be written. -/
def Has (w : World) (b : Nat) (vs : Array Value) : Prop := b < w.heap.size ∧ (∀ i, w.cell? ⟨b, i, none⟩ = vs[i]?) ∧ ∀ i, w.frozen? ⟨b, i, none⟩ = false
theorem Has.below {w w' : World} {b : Nat} {vs : Array Value} (h : Has w b vs) (hb : Below w.heap.size w w') : Has w' b vs :=
  ⟨Nat.lt_of_lt_of_le h.1 hb.size, fun i => (hb.cell (p := ⟨b, i, none⟩) h.1).trans (h.2.1 i), fun i => (hb.frozen (p := ⟨b, i, none⟩) h.1).trans (h.2.2 i)⟩
theorem Has.alloc {w : World} {b : Nat} {vs : Array Value} (h : Has w b vs) (o : Obj) : Has (w.alloc o) b vs :=
  h.below ((Below.refl _ _).alloc (Nat.le_refl _) _)
theorem Has.drew {w : World} {b : Nat} {vs : Array Value} (h : Has w b vs) : Has w.drew b vs := h
theorem Has.new (w : World) (vs : Array Value) (t : TypeId) {b : Nat} (hb : b = w.heap.size) : Has (w.alloc (.cells vs t)) b vs :=
  ⟨by simp [hb], fun i => by simp [hb], fun i => World.frozen?_alloc_at _ _ _ _ hb⟩
theorem bel_after {w W w1 : World} {B : Nat} (h : Below B w W) (hB : B ≤ W.heap.size) (hb : Below W.heap.size W w1) : Below B w w1 := h.trans (hb.mono hB)
theorem Has.far {w : World} {b : Nat} {vs : Array Value} (h : Has w b vs) {c i : Nat} (hc : b ≠ c) (v : Value) : Has (w.setCell ⟨c, i, none⟩ v) b vs :=
  ⟨by simpa [World.setCell] using h.1, fun j => (World.cell?_setCell_other w ⟨c, i, none⟩ ⟨b, j, none⟩ v (by intro e; exact hc (congrArg Addr.block e).symm)).trans (h.2.1 j), fun j => by rw [World.frozen?_setCell]; exact h.2.2 j⟩
theorem Has.set {w : World} {b : Nat} {vs : Array Value} (h : Has w b vs) (i : Nat) (hi : i < vs.size) (v : Value) : Has (w.setCell ⟨b, i, none⟩ v) b (vs.setIfInBounds i v) :=
  ⟨by simpa [World.setCell] using h.1, fun j => by
    by_cases e : i = j
    · subst e
      rw [World.cell?_setCell_same w ⟨b, i, none⟩ v (u := vs[i]) (by rw [h.2.1 i]; simp [hi])]
      simp [hi]
    · rw [World.cell?_setCell_other w ⟨b, i, none⟩ ⟨b, j, none⟩ v (by intro h'; exact e (congrArg Addr.off h')), h.2.1 j]
      simp [e], fun j => by rw [World.frozen?_setCell]; exact h.2.2 j⟩

set_option maxRecDepth 100000 in
set_option maxHeartbeats 1000000 in
theorem next_any (s : ByteArray) (i j : Nat) (w : World) (hij : i ≤ j) (hj : j ≤ s.size) (hs : s.size < 4611686018427387904) :
    Calls Try.prog 10 #[.string s, .int .i64 i, .int .i64 j, .agg #[.int .i64 (lineAt s i), .int .i64 (colAt s i)]] w fun e w' => e = .returned (.agg #[.int .i64 (lineAt s j), .int .i64 (colAt s j)]) ∧ Below w.heap.size w w' := by
  go_enter Try.func10, Try.ntmps10
  go_wp2
  go_loopw [1] (fun t wr => ∃ k : Nat, k ≤ j ∧ t = .int .i64 k ∧ Below w.heap.size w wr ∧ Has wr w.heap.size #[.int .i64 (lineAt s k), .int .i64 (colAt s k)] ∧ Has wr (w.heap.size + 1) #[.int .i64 0, .int .i64 0]) (fun t _ => j - (intOf t).toNat)
  case atStart => exact ⟨i, hij, rfl, ((Below.refl _ _).alloc (Nat.le_refl _) _).alloc (by simp) _, (Has.new _ _ _ rfl).alloc _, Has.new _ _ _ (by simp)⟩
  case round =>
    obtain ⟨k, hk, rfl, hB, hP, hR⟩ := hrel
    have bl := lineAt_bd s k
    have bc := colAt_bd s k
    obtain ⟨p0, P1, p2⟩ := id hP
    obtain ⟨r0, R1, r2⟩ := id hR
    by_cases hlt : k < j
    · by_cases h10 : (s[k].toNat : Int) = 10
      · have hl := lineAt_hit s k (by omega) h10
        have hc := colAt_hit s k (by omega) h10
        have HL : Hid (lineAt s (k + 1) = lineAt s k + 1) := hl
        have HC : Hid (colAt s (k + 1) = 1) := hc
        clear hl hc
        go_wp2
        go_roundw
        case rel => exact ⟨k + 1, by omega, by go_num, ((hB.setCell (by simp) _).setCell (by simp) _).setCell (by simp) _, by rw [HL.out, HC.out]; exact ((hP.set 1 (by simp) _).set 0 (by simp) _).set 1 (by simp) _, ((hR.far (by omega) _).far (by omega) _).far (by omega) _⟩
        case measure => simp [intOf]; omega
      · have hl := lineAt_miss s k (by omega) h10
        have hc := colAt_miss s k (by omega) h10
        have HL : Hid (lineAt s (k + 1) = lineAt s k) := hl
        have HC : Hid (colAt s (k + 1) = colAt s k + 1) := hc
        clear hl hc
        go_wp2
        go_roundw
        case rel => exact ⟨k + 1, by omega, by go_num, hB.setCell (by simp) _, by rw [HL.out, HC.out]; exact hP.set 1 (by simp) _, hR.far (by omega) _⟩
        case measure => simp [intOf]; omega
    · obtain rfl : k = j := by omega
      go_wp2
      have hX : Has ((wr.setCell ⟨w.heap.size + 1, 0, none⟩ (.int .i64 (lineAt s k))).setCell ⟨w.heap.size + 1, 1, none⟩ (.int .i64 (colAt s k))) (w.heap.size + 1) #[.int .i64 (lineAt s k), .int .i64 (colAt s k)] := (hR.set 0 (by simp) _).set 1 (by simp) _
      obtain ⟨x0, X1, x2⟩ := hX
      exact bodyPost_ret (v := .agg #[.int .i64 (lineAt s k), .int .i64 (colAt s k)]) (by simp [results, Try.results10, go_sem, X1]) rfl ⟨rfl, (hB.setCell (by simp) _).setCell (by simp) _⟩
end Go.Proofs.Ytjohnhaahpggkaa
