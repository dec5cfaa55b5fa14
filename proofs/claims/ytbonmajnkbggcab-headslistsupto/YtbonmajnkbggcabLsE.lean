import Derived.Test.YtbonmajnkbggcabLsD
import Derived.Test.YtbonmajnkbggcabKeM
import Derived.Test.YtbonmajnkbggcabHqA
import Derived.Deep.RegionHeld3
namespace Go.Proofs.Ytbonmajnkbggcab
open Go.RowKit
set_option linter.unusedVariables false


def mkA (n : Nat) (mk i : Int) (j : Nat) : Int := if j < n then mk + (j : Int) else 70000 + i
def mkI (n : Nat) (mk i : Int) (j : Nat) : Int := if j < n then -mk - (j : Int) else 80000 + i
def mkW (n : Nat) (mk i : Int) (j : Nat) : Int := if j < n then -mk - 100 - (j : Int) else 90000 + i
theorem fl_at {kind : Int → List Value} {w : World} {a : Option Addr} {N : Nat} {f : Nat → Int} (h : (lst64 N f) = [] ∨ ∃ g o, a = some ⟨g, o, none⟩ ∧ g < w.heap.size ∧ ∀ (i : Nat) (h : i < (lst64 N f).length) (u : Value), (kind (lst64 N f)[i])[0]? = some u → w.cell? ⟨g, o + i, none⟩ = some u) {k : Nat} (hk : k < N) : ∃ g o, a = some ⟨g, o, none⟩ ∧ g < w.heap.size ∧ ∀ (i : Nat) (hi : i < N) (u : Value), (kind (f i))[0]? = some u → w.cell? ⟨g, o + i, none⟩ = some u := by
  obtain ⟨g, o, e, hg, P⟩ := h.resolve_left (by intro e; have := congrArg List.length e; rw [lst_len] at this; simp at this; omega)
  refine ⟨g, o, e, hg, fun i hi u hu => P i (by rw [lst_len]; exact hi) u ?_⟩
  rw [lst_get]; exact hu
set_option maxRecDepth 100000 in
set_option maxHeartbeats 4000000 in
theorem spoilt0 (n : Nat) (mk i : Int) (u1 u2 u3 : Value) (w : World) (h1 : Fl 1 n64 w u1 (lst64 n (mkA n mk i))) (h2 : Fl 1 n32 w u2 (lst64 n (mkI n mk i))) (h3 : Fl 1 n32 w u3 (lst64 n (mkW n mk i))) (hn : n ≤ 64) (hmk : 0 ≤ mk ∧ mk ≤ 2000000000) (hi : 0 ≤ i ∧ i ≤ 2000000) :
    Calls Try.prog 30 #[.agg #[u1, u2, u3], .int .i64 mk, .int .i64 (n : Int), .bool false, .int .i64 i] w fun e w' => e = .returned (.bool true) ∧ Below w.heap.size w w' := by
  obtain ⟨a1, c1, rfl, kA⟩ := h1.nums
  obtain ⟨a2, c2, rfl, kI⟩ := h2.nums
  obtain ⟨a3, c3, rfl, kW⟩ := h3.nums
  clear h1 h2 h3
  have kA' := fun (k : Nat) (hk : k < n) => fl_at kA (k := k) hk
  have kI' := fun (k : Nat) (hk : k < n) => fl_at kI (k := k) hk
  have kW' := fun (k : Nat) (hk : k < n) => fl_at kW (k := k) hk
  clear kA kI kW
  simp only [lst_len]
  have B0 : Has (w.alloc (.cells #[.slice a1 n c1, .slice a2 n c2, .slice a3 n c3] 29)) w.heap.size #[.slice a1 n c1, .slice a2 n c2, .slice a3 n c3] := Has.new _ _ _ rfl
  have hb0 : Below w.heap.size w (w.alloc (.cells #[.slice a1 n c1, .slice a2 n c2, .slice a3 n c3] 29)) := belN1
  have wn : IntKind.i64.wrap ((n : Int) + 1) = (n : Int) + 1 := wrap64 _ (by omega)
  obtain ⟨_, b1, _⟩ := id B0
  go_enter Try.func30, Try.ntmps30
  go_wp2
  generalize (w.alloc (.cells #[.slice a1 n c1, .slice a2 n c2, .slice a3 n c3] 29)) = W0 at *
  go_loopw [12] (fun t wr => ∃ k : Nat, k ≤ n ∧ t = .int .i64 (k : Int) ∧ wr = W0) (fun t _ => n - (intOf t).toNat)
  case atStart => exact ⟨0, by omega, rfl, rfl⟩
  case round =>
    obtain ⟨k, hkl, rfl, rfl⟩ := hrel
    by_cases hlt : k < n
    · obtain ⟨g1, o1, rfl, hg1, P1⟩ := kA' k (by omega)
      obtain ⟨g2, o2, rfl, hg2, P2⟩ := kI' k (by omega)
      obtain ⟨g3, o3, rfl, hg3, P3⟩ := kW' k (by omega)
      have p1 := (hb0.cell (p := ⟨g1, _, none⟩) hg1).trans (P1 k (by omega) _ rfl)
      have p2 := (hb0.cell (p := ⟨g2, _, none⟩) hg2).trans (P2 k (by omega) _ rfl)
      have p3 := (hb0.cell (p := ⟨g3, _, none⟩) hg3).trans (P3 k (by omega) _ rfl)
      rw [show mkA n mk i k = mk + (k : Int) from if_pos hlt] at p1
      rw [show mkI n mk i k = -mk - (k : Int) from if_pos hlt] at p2
      rw [show mkW n mk i k = -mk - 100 - (k : Int) from if_pos hlt] at p3
      have x0 : IntKind.i64.wrap (-mk) = -mk := wrap64 _ (by omega)
      have x1 : IntKind.i64.wrap (mk + (k : Int)) = mk + (k : Int) := wrap64 _ (by omega)
      have x2 : IntKind.i64.wrap (-mk - (k : Int)) = -mk - (k : Int) := wrap64 _ (by omega)
      have x3 : IntKind.i32.wrap (-mk - (k : Int)) = -mk - (k : Int) := by rw [IntKind.wrap_i32]; omega
      have x4 : IntKind.i64.wrap (-mk - 100) = -mk - 100 := wrap64 _ (by omega)
      have x5 : IntKind.i64.wrap (-mk - 100 - (k : Int)) = -mk - 100 - (k : Int) := wrap64 _ (by omega)
      have x6 : IntKind.i32.wrap (-mk - 100 - (k : Int)) = -mk - 100 - (k : Int) := by rw [IntKind.wrap_i32]; omega
      have t0 : (0 : Int) ≤ (k : Int) := by omega
      have t1 : (k : Int) < (n : Int) := by omega
      have t3 : (k : Int) < (n : Int) + 1 := by omega
      have t2 : k + 1 ≤ n := hlt
      clear P1 P2 P3 kA' kI' kW'
      go_wp2
      go_roundw
      case rel => exact ⟨k + 1, by omega, by go_num, by first | rfl | trivial⟩
      case measure => simp [intOf]; omega
    · have t1 : ¬ (k : Int) < (n : Int) := by omega
      go_wp2
      go_ret
      exact ⟨rfl, hb0⟩
set_option maxRecDepth 100000 in
set_option maxHeartbeats 4000000 in
theorem spoilt1 (n : Nat) (mk i : Int) (u1 u2 u3 : Value) (w : World) (h1 : Fl 1 n64 w u1 (lst64 (n + 1) (mkA n mk i))) (h2 : Fl 1 n32 w u2 (lst64 (n + 1) (mkI n mk i))) (h3 : Fl 1 n32 w u3 (lst64 (n + 1) (mkW n mk i))) (hn : n ≤ 64) (hmk : 0 ≤ mk ∧ mk ≤ 2000000000) (hi : 0 ≤ i ∧ i ≤ 2000000) :
    Calls Try.prog 30 #[.agg #[u1, u2, u3], .int .i64 mk, .int .i64 (n : Int), .bool true, .int .i64 i] w fun e w' => e = .returned (.bool true) ∧ Below w.heap.size w w' := by
  obtain ⟨a1, c1, rfl, kA⟩ := h1.nums
  obtain ⟨a2, c2, rfl, kI⟩ := h2.nums
  obtain ⟨a3, c3, rfl, kW⟩ := h3.nums
  clear h1 h2 h3
  have kA' := fun (k : Nat) (hk : k < (n + 1)) => fl_at kA (k := k) hk
  have kI' := fun (k : Nat) (hk : k < (n + 1)) => fl_at kI (k := k) hk
  have kW' := fun (k : Nat) (hk : k < (n + 1)) => fl_at kW (k := k) hk
  clear kA kI kW
  simp only [lst_len]
  have B0 : Has (w.alloc (.cells #[.slice a1 (n + 1) c1, .slice a2 (n + 1) c2, .slice a3 (n + 1) c3] 29)) w.heap.size #[.slice a1 (n + 1) c1, .slice a2 (n + 1) c2, .slice a3 (n + 1) c3] := Has.new _ _ _ rfl
  have hb0 : Below w.heap.size w (w.alloc (.cells #[.slice a1 (n + 1) c1, .slice a2 (n + 1) c2, .slice a3 (n + 1) c3] 29)) := belN1
  have wn : IntKind.i64.wrap ((n : Int) + 1) = (n : Int) + 1 := wrap64 _ (by omega)
  obtain ⟨_, b1, _⟩ := id B0
  go_enter Try.func30, Try.ntmps30
  go_wp2
  generalize (w.alloc (.cells #[.slice a1 (n + 1) c1, .slice a2 (n + 1) c2, .slice a3 (n + 1) c3] 29)) = W0 at *
  go_loopw [12] (fun t wr => ∃ k : Nat, k ≤ n ∧ t = .int .i64 (k : Int) ∧ wr = W0) (fun t _ => n - (intOf t).toNat)
  case atStart => exact ⟨0, by omega, rfl, rfl⟩
  case round =>
    obtain ⟨k, hkl, rfl, rfl⟩ := hrel
    by_cases hlt : k < n
    · obtain ⟨g1, o1, rfl, hg1, P1⟩ := kA' k (by omega)
      obtain ⟨g2, o2, rfl, hg2, P2⟩ := kI' k (by omega)
      obtain ⟨g3, o3, rfl, hg3, P3⟩ := kW' k (by omega)
      have p1 := (hb0.cell (p := ⟨g1, _, none⟩) hg1).trans (P1 k (by omega) _ rfl)
      have p2 := (hb0.cell (p := ⟨g2, _, none⟩) hg2).trans (P2 k (by omega) _ rfl)
      have p3 := (hb0.cell (p := ⟨g3, _, none⟩) hg3).trans (P3 k (by omega) _ rfl)
      rw [show mkA n mk i k = mk + (k : Int) from if_pos hlt] at p1
      rw [show mkI n mk i k = -mk - (k : Int) from if_pos hlt] at p2
      rw [show mkW n mk i k = -mk - 100 - (k : Int) from if_pos hlt] at p3
      have x0 : IntKind.i64.wrap (-mk) = -mk := wrap64 _ (by omega)
      have x1 : IntKind.i64.wrap (mk + (k : Int)) = mk + (k : Int) := wrap64 _ (by omega)
      have x2 : IntKind.i64.wrap (-mk - (k : Int)) = -mk - (k : Int) := wrap64 _ (by omega)
      have x3 : IntKind.i32.wrap (-mk - (k : Int)) = -mk - (k : Int) := by rw [IntKind.wrap_i32]; omega
      have x4 : IntKind.i64.wrap (-mk - 100) = -mk - 100 := wrap64 _ (by omega)
      have x5 : IntKind.i64.wrap (-mk - 100 - (k : Int)) = -mk - 100 - (k : Int) := wrap64 _ (by omega)
      have x6 : IntKind.i32.wrap (-mk - 100 - (k : Int)) = -mk - 100 - (k : Int) := by rw [IntKind.wrap_i32]; omega
      have t0 : (0 : Int) ≤ (k : Int) := by omega
      have t1 : (k : Int) < (n : Int) := by omega
      have t3 : (k : Int) < (n : Int) + 1 := by omega
      have t2 : k + 1 ≤ n := hlt
      clear P1 P2 P3 kA' kI' kW'
      go_wp2
      go_roundw
      case rel => exact ⟨k + 1, by omega, by go_num, by first | rfl | trivial⟩
      case measure => simp [intOf]; omega
    · have t1 : ¬ (k : Int) < (n : Int) := by omega
      obtain ⟨g1, o1, rfl, hg1, P1⟩ := kA' n (by omega)
      obtain ⟨g2, o2, rfl, hg2, P2⟩ := kI' n (by omega)
      obtain ⟨g3, o3, rfl, hg3, P3⟩ := kW' n (by omega)
      have p1 := (hb0.cell (p := ⟨g1, _, none⟩) hg1).trans (P1 n (by omega) _ rfl)
      have p2 := (hb0.cell (p := ⟨g2, _, none⟩) hg2).trans (P2 n (by omega) _ rfl)
      have p3 := (hb0.cell (p := ⟨g3, _, none⟩) hg3).trans (P3 n (by omega) _ rfl)
      rw [show mkA n mk i n = 70000 + i from if_neg (by omega)] at p1
      rw [show mkI n mk i n = 80000 + i from if_neg (by omega)] at p2
      rw [show mkW n mk i n = 90000 + i from if_neg (by omega)] at p3
      have x1 : IntKind.i64.wrap (70000 + i) = 70000 + i := wrap64 _ (by omega)
      have x2 : IntKind.i64.wrap (80000 + i) = 80000 + i := wrap64 _ (by omega)
      have x3 : IntKind.i64.wrap (90000 + i) = 90000 + i := wrap64 _ (by omega)
      have x4 : IntKind.i32.wrap (80000 + i) = 80000 + i := by rw [IntKind.wrap_i32]; omega
      have x5 : IntKind.i32.wrap (90000 + i) = 90000 + i := by rw [IntKind.wrap_i32]; omega
      have m1 : (n : Int) < (n : Int) + 1 := by omega
      have m0 : (0 : Int) ≤ (n : Int) := by omega
      clear P1 P2 P3 kA' kI' kW'
      go_wp2
      go_ret
      exact ⟨rfl, hb0⟩
end Go.Proofs.Ytbonmajnkbggcab
