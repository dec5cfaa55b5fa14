import Derived.Test.YtdajmfhcajopcaaDoorHas
import Derived.Great.BuildSlice
import Derived.Laws.Tables
namespace Go.Proofs.YtdajmfhcajopcaaDoor
open Go.RowKit
set_option linter.unusedVariables false
set_option linter.unusedSimpArgs false

/-- The words of a refusal. -/
def wdL : List (Nat × Array UInt8) := [(10, #[110, 111, 32, 115, 117, 99, 104, 32, 111, 112, 101, 114, 97, 116, 111, 114]), (11, #[110, 111, 32, 110, 117, 109, 98, 101, 114]), (12, #[110, 111, 32, 115, 117, 99, 104, 32, 109, 101, 109, 98, 101, 114]), (20, #[116, 111, 111, 32, 108, 111, 110, 103]), (21, #[97, 32, 98, 121, 116, 101, 32, 116, 104, 97, 116, 32, 98, 101, 103, 105, 110, 115, 32, 110, 111, 116, 104, 105, 110, 103]), (22, #[97, 32, 110, 117, 109, 98, 101, 114, 32, 111, 102, 32, 97, 32, 119, 114, 111, 110, 103, 32, 102, 111, 114, 109]), (23, #[97, 32, 110, 117, 109, 98, 101, 114, 32, 116, 111, 111, 32, 103, 114, 101, 97, 116]), (24, #[97, 32, 110, 97, 109, 101, 32, 116, 111, 111, 32, 108, 111, 110, 103]), (25, #[97, 32, 116, 111, 107, 101, 110, 32, 116, 104, 97, 116, 32, 99, 97, 110, 110, 111, 116, 32, 98, 101, 32, 119, 114, 105, 116, 116, 101, 110]), (30, #[97, 32, 116, 111, 107, 101, 110, 32, 116, 104, 97, 116, 32, 99, 97, 110, 110, 111, 116, 32, 115, 116, 97, 110, 100, 32, 104, 101, 114, 101]), (31, #[110, 101, 115, 116, 101, 100, 32, 116, 111, 111, 32, 100, 101, 101, 112, 108, 121]), (32, #[97, 110, 32, 101, 120, 112, 114, 101, 115, 115, 105, 111, 110, 32, 116, 111, 111, 32, 108, 111, 110, 103]), (33, #[110, 111, 116, 32, 119, 101, 108, 108, 32, 102, 111, 114, 109, 101, 100]), (50, #[100, 101, 99, 108, 97, 114, 101, 100, 32, 116, 119, 105, 99, 101]), (51, #[110, 111, 116, 32, 100, 101, 99, 108, 97, 114, 101, 100]), (52, #[97, 32, 110, 97, 109, 101, 32, 111, 102, 32, 97, 110, 111, 116, 104, 101, 114, 32, 107, 105, 110, 100]), (53, #[97, 32, 110, 117, 109, 98, 101, 114, 32, 97, 110, 100, 32, 97, 32, 116, 114, 117, 116, 104, 32, 99, 111, 110, 102, 117, 115, 101, 100]), (54, #[97, 32, 110, 117, 109, 98, 101, 114, 32, 111, 117, 116, 32, 111, 102, 32, 105, 116, 115, 32, 114, 97, 110, 103, 101]), (55, #[116, 111, 111, 32, 109, 97, 110, 121]), (56, #[110, 111, 116, 32, 106, 117, 115, 116, 32, 111, 110, 101, 32, 115, 116, 97, 114, 116]), (57, #[97, 32, 112, 97, 105, 114, 32, 116, 104, 97, 116, 32, 109, 97, 121, 32, 110, 111, 116, 32, 98, 101]), (58, #[97, 32, 115, 116, 97, 103, 101, 32, 116, 104, 97, 116, 32, 103, 111, 101, 115, 32, 116, 111, 32, 105, 116, 115, 101, 108, 102]), (59, #[116, 111, 111, 32, 108, 97, 114, 103, 101, 32, 119, 105, 116, 104, 32, 105, 116, 115, 32, 99, 111, 110, 100, 105, 116, 105, 111, 110, 115, 32, 112, 117, 116, 32, 105, 110]), (60, #[103, 114, 111, 117, 112, 115, 32, 105, 110, 32, 99, 111, 110, 102, 108, 105, 99, 116]), (61, #[97, 110, 32, 105, 110, 116, 101, 114, 103, 114, 101, 101, 110, 32, 115, 104, 111, 114, 116, 101, 114, 32, 116, 104, 97, 110, 32, 116, 104, 101, 32, 97, 109, 98, 101, 114]), (62, #[97, 32, 109, 105, 110, 105, 109, 117, 109, 32, 116, 111, 111, 32, 115, 104, 111, 114, 116]), (63, #[97, 110, 32, 97, 109, 98, 101, 114, 32, 116, 111, 111, 32, 115, 104, 111, 114, 116]), (64, #[97, 32, 108, 101, 97, 100, 32, 116, 111, 111, 32, 108, 111, 110, 103]), (65, #[97, 32, 115, 116, 97, 103, 101, 32, 119, 105, 116, 104, 111, 117, 116, 32, 97, 32, 119, 97, 121, 32, 111, 117, 116]), (66, #[97, 32, 103, 114, 111, 117, 112, 32, 116, 104, 97, 116, 32, 105, 115, 32, 110, 101, 118, 101, 114, 32, 103, 114, 101, 101, 110]), (67, #[97, 32, 109, 111, 118, 101, 32, 116, 111, 111, 32, 108, 111, 110, 103]), (70, #[116, 97, 98, 108, 101, 115, 32, 110, 111, 116, 32, 115, 111, 117, 110, 100]), (71, #[104, 101, 97, 100, 115, 32, 110, 111, 116, 32, 111, 102, 32, 116, 104, 101, 32, 116, 97, 98, 108, 101, 115]), (80, #[97, 32, 116, 121, 112, 101, 100, 32, 112, 108, 97, 110, 32, 110, 111, 116, 32, 115, 111, 117, 110, 100]), (81, #[97, 32, 115, 116, 97, 116, 101, 32, 110, 111, 116, 32, 111, 102, 32, 116, 104, 101, 32, 112, 108, 97, 110]), (82, #[97, 110, 32, 101, 120, 112, 114, 101, 115, 115, 105, 111, 110, 32, 110, 111, 116, 32, 111, 102, 32, 116, 104, 101, 32, 112, 108, 97, 110]), (100, #[97, 110, 32, 105, 109, 97, 103, 101, 32, 110, 111, 116, 32, 119, 101, 108, 108, 32, 102, 111, 114, 109, 101, 100]), (101, #[110, 111, 32, 105, 109, 97, 103, 101]), (102, #[97, 110, 111, 116, 104, 101, 114, 32, 118, 101, 114, 115, 105, 111, 110]), (103, #[99, 117, 116, 32, 111, 102, 102]), (104, #[98, 121, 116, 101, 115, 32, 108, 101, 102, 116, 32, 111, 118, 101, 114]), (105, #[97, 32, 119, 114, 111, 110, 103, 32, 115, 117, 109]), (106, #[97, 32, 102, 105, 101, 108, 100, 32, 111, 117, 116, 32, 111, 102, 32, 105, 116, 115, 32, 114, 97, 110, 103, 101]), (107, #[110, 111, 32, 104, 101, 120, 32, 114, 101, 99, 111, 114, 100, 115]), (110, #[102, 117, 108, 108]), (120, #[110, 111, 32, 105, 110, 115, 116, 114, 117, 99, 116, 105, 111, 110]), (121, #[97, 32, 119, 114, 111, 110, 103, 32, 106, 117, 109, 112]), (122, #[97, 32, 119, 114, 111, 110, 103, 32, 115, 116, 97, 99, 107]), (123, #[112, 97, 116, 104, 115, 32, 116, 104, 97, 116, 32, 109, 101, 101, 116, 32, 117, 110, 108, 105, 107, 101]), (124, #[97, 32, 119, 114, 111, 110, 103, 32, 105, 110, 100, 101, 120]), (125, #[110, 111, 32, 101, 110, 100]), (126, #[110, 101, 118, 101, 114, 32, 114, 101, 97, 99, 104, 101, 100]), (127, #[119, 114, 111, 110, 103, 32, 115, 101, 99, 116, 105, 111, 110, 115]), (128, #[97, 32, 112, 105, 99, 107, 32, 111, 117, 116, 32, 111, 102, 32, 112, 108, 97, 99, 101]), (129, #[97, 110, 32, 111, 112, 101, 114, 97, 110, 100, 32, 111, 102, 32, 116, 104, 101, 32, 119, 114, 111, 110, 103, 32, 115, 111, 114, 116]), (140, #[110, 111, 32, 116, 114, 97, 99, 101]), (141, #[110, 111, 32, 105, 110, 112, 117, 116, 115]), (150, #[97, 110, 32, 101, 110, 116, 114, 121, 32, 110, 111, 116, 32, 111, 102, 32, 116, 104, 101, 32, 116, 97, 98, 108, 101, 115]), (160, #[110, 111, 32, 102, 108, 97, 115, 104]), (161, #[110, 111, 32, 115, 117, 99, 104, 32, 115, 108, 111, 116]), (162, #[97, 110, 32, 101, 109, 112, 116, 121, 32, 115, 108, 111, 116]), (163, #[110, 111, 32, 114, 111, 111, 109]), (164, #[100, 97, 116, 97, 32, 116, 104, 97, 116, 32, 99, 97, 110, 110, 111, 116, 32, 98, 101, 32, 107, 101, 112, 116]), (165, #[105, 110, 32, 117, 115, 101]), (166, #[97, 110, 32, 97, 99, 116, 32, 116, 104, 97, 116, 32, 99, 97, 110, 110, 111, 116, 32, 98, 101, 32, 100, 111, 110, 101]), (167, #[119, 111, 114, 110, 32, 111, 117, 116]), (170, #[110, 111, 32, 102, 114, 97, 109, 101]), (171, #[97, 32, 119, 114, 111, 110, 103, 32, 115, 117, 109]), (172, #[110, 111, 116, 32, 115, 116, 117, 102, 102, 101, 100]), (173, #[110, 111, 32, 109, 101, 115, 115, 97, 103, 101]), (174, #[97, 32, 102, 117, 108, 108, 32, 113, 117, 101, 117, 101]), (180, #[116, 111, 111, 32, 108, 111, 110, 103]), (181, #[97, 32, 108, 105, 110, 101, 32, 116, 104, 97, 116, 32, 105, 115, 32, 110, 111, 110, 101]), (182, #[110, 111, 32, 100, 97, 116, 101]), (183, #[110, 111, 32, 116, 105, 109, 101, 32, 111, 102, 32, 100, 97, 121]), (184, #[110, 111, 32, 115, 117, 99, 104, 32, 107, 105, 110, 100, 32, 111, 102, 32, 100, 97, 121]), (185, #[116, 119, 105, 99, 101]), (186, #[111, 117, 116, 32, 111, 102, 32, 111, 114, 100, 101, 114]), (187, #[116, 111, 111, 32, 109, 97, 110, 121]), (188, #[115, 111, 109, 101, 116, 104, 105, 110, 103, 32, 105, 115, 32, 109, 105, 115, 115, 105, 110, 103]), (189, #[111, 117, 116, 115, 105, 100, 101, 32, 116, 104, 101, 32, 99, 97, 108, 101, 110, 100, 97, 114]), (190, #[110, 111, 32, 99, 111, 109, 109, 97, 110, 100]), (191, #[97, 32, 119, 114, 111, 110, 103, 32, 97, 114, 103, 117, 109, 101, 110, 116]), (192, #[111, 102, 102]), (193, #[97, 32, 119, 114, 111, 110, 103, 32, 117, 112, 108, 111, 97, 100]), (194, #[114, 101, 102, 117, 115, 101, 100])]
def wdT (i : Nat) : ByteArray := ⟨(wdL.lookup i).getD #[]⟩
def zrC : Array Value := Array.replicate 195 (.string ⟨#[]⟩)
theorem zr_run (X : World) : Sem.run Tryd.prog (zeroValue 56) X = .ok (.agg zrC) X := by kernel_rfl
def wdC : Array Value := ((List.range 195).map fun i => Value.string (wdT i)).toArray
theorem wdC_size : wdC.size = 195 := by kernel_rfl
theorem wdC_get (i : Nat) (h : i < 195) : wdC[i]? = some (.string (wdT i)) := by simp [wdC, h]
theorem bel_row {w : World} {o : Obj} {cs : Array Value} : Below w.heap.size w ((w.alloc o).setRow w.heap.size cs) :=
  ⟨rfl, rfl, rfl, by simp [World.setRow], fun k hk => by rw [setRow_other _ _ _ _ (by omega)]; exact heap_alloc_old w o hk⟩
theorem wd_keys : (wdL.all fun p => decide (p.1 < 195)) = true := by kernel_rfl
theorem wdT_big (k : Nat) (h : 195 ≤ k) : wdT k = ⟨#[]⟩ := by
  have : wdL.lookup k = none := by
    rw [List.lookup_eq_none_iff]
    intro p hp
    have := of_decide_eq_true (List.all_eq_true.1 wd_keys p hp)
    simp; omega
  unfold wdT
  rw [this]; rfl
set_option maxRecDepth 100000 in
set_option maxHeartbeats 2000000 in
theorem words_any (c : Int) (w : World) :
    Calls Tryd.prog 13 #[.int .i64 c] w fun e w' => e = .returned (.string (if 0 ≤ c then wdT c.toNat else ⟨#[]⟩)) ∧ Below w.heap.size w w' := by
  have hz := zr_run
  go_enter Tryd.func13, Tryd.ntmps13
  go_upto_region 2 with (first | (refine wpList_buildTo rfl 56 _ rfl (some 4) rfl wdC (by kernel_rfl) ?_) | (refine wpList_store_row rfl 56 _ _ rfl w.heap.size wdC rfl rfl 56 _ (heap_alloc_new w _) (by kernel_rfl) (by kernel_rfl) (by kernel_rfl) ?_))
  have hb : Below w.heap.size w ((w.alloc (.cells zrC 56)).setRow w.heap.size wdC) := bel_row
  have hc : Hid (∀ j, j < 195 → ((w.alloc (.cells zrC 56)).setRow w.heap.size wdC).cell? ⟨w.heap.size, j, none⟩ = some (.string (wdT j))) := fun j hj => (cell_setRow_same _ _ j zrC wdC 56 (0, 0) (heap_alloc_new w _)).trans (wdC_get j hj)
  generalize (w.alloc (.cells zrC 56)).setRow w.heap.size wdC = W at *
  clear hz
  by_cases h0 : c < 0
  case pos =>
    go_wp2_with fail
    go_ret
    exact ⟨rfl, hb⟩
  obtain ⟨k, rfl⟩ : ∃ k : Nat, c = (k : Int) := ⟨c.toNat, by omega⟩
  have h1 : ¬ (k : Int) < 0 := by omega
  have h2 : (0 : Int) ≤ (k : Int) := by omega
  by_cases h3 : k < 195
  case pos =>
    have h4 : ¬ (195 : Int) ≤ (k : Int) := by omega
    have h5 : (k : Int) < 195 := by omega
    have z := hc.out k h3
    go_wp2_with fail
    go_ret
    exact ⟨rfl, hb⟩
  case neg =>
    have h4 : (195 : Int) ≤ (k : Int) := by omega
    go_wp2_with fail
    go_ret
    exact ⟨by rw [wdT_big k (by omega)]; rfl, hb⟩
def ks24 : List Nat := [10, 11, 12, 20, 21, 22, 23, 24, 25, 30, 31, 32, 33, 50, 51, 52, 53, 54, 55, 56, 57, 58, 59]
set_option maxRecDepth 100000 in
set_option maxHeartbeats 2000000 in
theorem say24_any (c : Int) (w : World) :
    Calls Tryd.prog 24 #[.int .i64 c] w fun e w' => e = .returned (.tuple #[.string (if c ∈ ks24.map (fun (k : Nat) => (k : Int)) then wdT c.toNat else ⟨#[]⟩), .bool (decide (c ∈ ks24.map (fun (k : Nat) => (k : Int))))]) ∧ w' = w := by
  go_enter Tryd.func24, Tryd.ntmps24
  by_cases c10 : c = 10
  case pos =>
    subst c10
    go_wp2_with fail
    go_ret2
    exact ⟨rfl, rfl⟩
  by_cases c11 : c = 11
  case pos =>
    subst c11
    go_wp2_with fail
    go_ret2
    exact ⟨rfl, rfl⟩
  by_cases c12 : c = 12
  case pos =>
    subst c12
    go_wp2_with fail
    go_ret2
    exact ⟨rfl, rfl⟩
  by_cases c20 : c = 20
  case pos =>
    subst c20
    go_wp2_with fail
    go_ret2
    exact ⟨rfl, rfl⟩
  by_cases c21 : c = 21
  case pos =>
    subst c21
    go_wp2_with fail
    go_ret2
    exact ⟨rfl, rfl⟩
  by_cases c22 : c = 22
  case pos =>
    subst c22
    go_wp2_with fail
    go_ret2
    exact ⟨rfl, rfl⟩
  by_cases c23 : c = 23
  case pos =>
    subst c23
    go_wp2_with fail
    go_ret2
    exact ⟨rfl, rfl⟩
  by_cases c24 : c = 24
  case pos =>
    subst c24
    go_wp2_with fail
    go_ret2
    exact ⟨rfl, rfl⟩
  by_cases c25 : c = 25
  case pos =>
    subst c25
    go_wp2_with fail
    go_ret2
    exact ⟨rfl, rfl⟩
  by_cases c30 : c = 30
  case pos =>
    subst c30
    go_wp2_with fail
    go_ret2
    exact ⟨rfl, rfl⟩
  by_cases c31 : c = 31
  case pos =>
    subst c31
    go_wp2_with fail
    go_ret2
    exact ⟨rfl, rfl⟩
  by_cases c32 : c = 32
  case pos =>
    subst c32
    go_wp2_with fail
    go_ret2
    exact ⟨rfl, rfl⟩
  by_cases c33 : c = 33
  case pos =>
    subst c33
    go_wp2_with fail
    go_ret2
    exact ⟨rfl, rfl⟩
  by_cases c50 : c = 50
  case pos =>
    subst c50
    go_wp2_with fail
    go_ret2
    exact ⟨rfl, rfl⟩
  by_cases c51 : c = 51
  case pos =>
    subst c51
    go_wp2_with fail
    go_ret2
    exact ⟨rfl, rfl⟩
  by_cases c52 : c = 52
  case pos =>
    subst c52
    go_wp2_with fail
    go_ret2
    exact ⟨rfl, rfl⟩
  by_cases c53 : c = 53
  case pos =>
    subst c53
    go_wp2_with fail
    go_ret2
    exact ⟨rfl, rfl⟩
  by_cases c54 : c = 54
  case pos =>
    subst c54
    go_wp2_with fail
    go_ret2
    exact ⟨rfl, rfl⟩
  by_cases c55 : c = 55
  case pos =>
    subst c55
    go_wp2_with fail
    go_ret2
    exact ⟨rfl, rfl⟩
  by_cases c56 : c = 56
  case pos =>
    subst c56
    go_wp2_with fail
    go_ret2
    exact ⟨rfl, rfl⟩
  by_cases c57 : c = 57
  case pos =>
    subst c57
    go_wp2_with fail
    go_ret2
    exact ⟨rfl, rfl⟩
  by_cases c58 : c = 58
  case pos =>
    subst c58
    go_wp2_with fail
    go_ret2
    exact ⟨rfl, rfl⟩
  by_cases c59 : c = 59
  case pos =>
    subst c59
    go_wp2_with fail
    go_ret2
    exact ⟨rfl, rfl⟩
  have hn : ¬ c ∈ ks24.map (fun (k : Nat) => (k : Int)) := by simp [ks24]; omega
  rw [if_neg hn, decide_eq_false hn]
  go_wp2_with fail
  go_ret2
  exact ⟨rfl, rfl⟩
def ks25 : List Nat := [60, 61, 62, 63, 64, 65, 66, 67, 70, 71, 80, 81, 82, 100, 101, 102, 103, 104, 105, 106, 107]
set_option maxRecDepth 100000 in
set_option maxHeartbeats 2000000 in
theorem say25_any (c : Int) (w : World) :
    Calls Tryd.prog 25 #[.int .i64 c] w fun e w' => e = .returned (.tuple #[.string (if c ∈ ks25.map (fun (k : Nat) => (k : Int)) then wdT c.toNat else ⟨#[]⟩), .bool (decide (c ∈ ks25.map (fun (k : Nat) => (k : Int))))]) ∧ w' = w := by
  go_enter Tryd.func25, Tryd.ntmps25
  by_cases c60 : c = 60
  case pos =>
    subst c60
    go_wp2_with fail
    go_ret2
    exact ⟨rfl, rfl⟩
  by_cases c61 : c = 61
  case pos =>
    subst c61
    go_wp2_with fail
    go_ret2
    exact ⟨rfl, rfl⟩
  by_cases c62 : c = 62
  case pos =>
    subst c62
    go_wp2_with fail
    go_ret2
    exact ⟨rfl, rfl⟩
  by_cases c63 : c = 63
  case pos =>
    subst c63
    go_wp2_with fail
    go_ret2
    exact ⟨rfl, rfl⟩
  by_cases c64 : c = 64
  case pos =>
    subst c64
    go_wp2_with fail
    go_ret2
    exact ⟨rfl, rfl⟩
  by_cases c65 : c = 65
  case pos =>
    subst c65
    go_wp2_with fail
    go_ret2
    exact ⟨rfl, rfl⟩
  by_cases c66 : c = 66
  case pos =>
    subst c66
    go_wp2_with fail
    go_ret2
    exact ⟨rfl, rfl⟩
  by_cases c67 : c = 67
  case pos =>
    subst c67
    go_wp2_with fail
    go_ret2
    exact ⟨rfl, rfl⟩
  by_cases c70 : c = 70
  case pos =>
    subst c70
    go_wp2_with fail
    go_ret2
    exact ⟨rfl, rfl⟩
  by_cases c71 : c = 71
  case pos =>
    subst c71
    go_wp2_with fail
    go_ret2
    exact ⟨rfl, rfl⟩
  by_cases c80 : c = 80
  case pos =>
    subst c80
    go_wp2_with fail
    go_ret2
    exact ⟨rfl, rfl⟩
  by_cases c81 : c = 81
  case pos =>
    subst c81
    go_wp2_with fail
    go_ret2
    exact ⟨rfl, rfl⟩
  by_cases c82 : c = 82
  case pos =>
    subst c82
    go_wp2_with fail
    go_ret2
    exact ⟨rfl, rfl⟩
  by_cases c100 : c = 100
  case pos =>
    subst c100
    go_wp2_with fail
    go_ret2
    exact ⟨rfl, rfl⟩
  by_cases c101 : c = 101
  case pos =>
    subst c101
    go_wp2_with fail
    go_ret2
    exact ⟨rfl, rfl⟩
  by_cases c102 : c = 102
  case pos =>
    subst c102
    go_wp2_with fail
    go_ret2
    exact ⟨rfl, rfl⟩
  by_cases c103 : c = 103
  case pos =>
    subst c103
    go_wp2_with fail
    go_ret2
    exact ⟨rfl, rfl⟩
  by_cases c104 : c = 104
  case pos =>
    subst c104
    go_wp2_with fail
    go_ret2
    exact ⟨rfl, rfl⟩
  by_cases c105 : c = 105
  case pos =>
    subst c105
    go_wp2_with fail
    go_ret2
    exact ⟨rfl, rfl⟩
  by_cases c106 : c = 106
  case pos =>
    subst c106
    go_wp2_with fail
    go_ret2
    exact ⟨rfl, rfl⟩
  by_cases c107 : c = 107
  case pos =>
    subst c107
    go_wp2_with fail
    go_ret2
    exact ⟨rfl, rfl⟩
  have hn : ¬ c ∈ ks25.map (fun (k : Nat) => (k : Int)) := by simp [ks25]; omega
  rw [if_neg hn, decide_eq_false hn]
  go_wp2_with fail
  go_ret2
  exact ⟨rfl, rfl⟩
def ks26 : List Nat := [110, 120, 121, 122, 123, 124, 125, 126, 127, 128, 129, 140, 141, 150]
set_option maxRecDepth 100000 in
set_option maxHeartbeats 2000000 in
theorem say26_any (c : Int) (w : World) :
    Calls Tryd.prog 26 #[.int .i64 c] w fun e w' => e = .returned (.tuple #[.string (if c ∈ ks26.map (fun (k : Nat) => (k : Int)) then wdT c.toNat else ⟨#[]⟩), .bool (decide (c ∈ ks26.map (fun (k : Nat) => (k : Int))))]) ∧ w' = w := by
  go_enter Tryd.func26, Tryd.ntmps26
  by_cases c110 : c = 110
  case pos =>
    subst c110
    go_wp2_with fail
    go_ret2
    exact ⟨rfl, rfl⟩
  by_cases c120 : c = 120
  case pos =>
    subst c120
    go_wp2_with fail
    go_ret2
    exact ⟨rfl, rfl⟩
  by_cases c121 : c = 121
  case pos =>
    subst c121
    go_wp2_with fail
    go_ret2
    exact ⟨rfl, rfl⟩
  by_cases c122 : c = 122
  case pos =>
    subst c122
    go_wp2_with fail
    go_ret2
    exact ⟨rfl, rfl⟩
  by_cases c123 : c = 123
  case pos =>
    subst c123
    go_wp2_with fail
    go_ret2
    exact ⟨rfl, rfl⟩
  by_cases c124 : c = 124
  case pos =>
    subst c124
    go_wp2_with fail
    go_ret2
    exact ⟨rfl, rfl⟩
  by_cases c125 : c = 125
  case pos =>
    subst c125
    go_wp2_with fail
    go_ret2
    exact ⟨rfl, rfl⟩
  by_cases c126 : c = 126
  case pos =>
    subst c126
    go_wp2_with fail
    go_ret2
    exact ⟨rfl, rfl⟩
  by_cases c127 : c = 127
  case pos =>
    subst c127
    go_wp2_with fail
    go_ret2
    exact ⟨rfl, rfl⟩
  by_cases c128 : c = 128
  case pos =>
    subst c128
    go_wp2_with fail
    go_ret2
    exact ⟨rfl, rfl⟩
  by_cases c129 : c = 129
  case pos =>
    subst c129
    go_wp2_with fail
    go_ret2
    exact ⟨rfl, rfl⟩
  by_cases c140 : c = 140
  case pos =>
    subst c140
    go_wp2_with fail
    go_ret2
    exact ⟨rfl, rfl⟩
  by_cases c141 : c = 141
  case pos =>
    subst c141
    go_wp2_with fail
    go_ret2
    exact ⟨rfl, rfl⟩
  by_cases c150 : c = 150
  case pos =>
    subst c150
    go_wp2_with fail
    go_ret2
    exact ⟨rfl, rfl⟩
  have hn : ¬ c ∈ ks26.map (fun (k : Nat) => (k : Int)) := by simp [ks26]; omega
  rw [if_neg hn, decide_eq_false hn]
  go_wp2_with fail
  go_ret2
  exact ⟨rfl, rfl⟩
def ks27 : List Nat := [160, 161, 162, 163, 164, 165, 166, 167, 170, 171, 172, 173, 174, 180, 181, 182, 183, 184, 185, 186, 187, 188, 189, 190, 191, 192, 193, 194]
set_option maxRecDepth 100000 in
set_option maxHeartbeats 2000000 in
theorem say27_any (c : Int) (w : World) :
    Calls Tryd.prog 27 #[.int .i64 c] w fun e w' => e = .returned (.tuple #[.string (if c ∈ ks27.map (fun (k : Nat) => (k : Int)) then wdT c.toNat else ⟨#[]⟩), .bool (decide (c ∈ ks27.map (fun (k : Nat) => (k : Int))))]) ∧ w' = w := by
  go_enter Tryd.func27, Tryd.ntmps27
  by_cases c160 : c = 160
  case pos =>
    subst c160
    go_wp2_with fail
    go_ret2
    exact ⟨rfl, rfl⟩
  by_cases c161 : c = 161
  case pos =>
    subst c161
    go_wp2_with fail
    go_ret2
    exact ⟨rfl, rfl⟩
  by_cases c162 : c = 162
  case pos =>
    subst c162
    go_wp2_with fail
    go_ret2
    exact ⟨rfl, rfl⟩
  by_cases c163 : c = 163
  case pos =>
    subst c163
    go_wp2_with fail
    go_ret2
    exact ⟨rfl, rfl⟩
  by_cases c164 : c = 164
  case pos =>
    subst c164
    go_wp2_with fail
    go_ret2
    exact ⟨rfl, rfl⟩
  by_cases c165 : c = 165
  case pos =>
    subst c165
    go_wp2_with fail
    go_ret2
    exact ⟨rfl, rfl⟩
  by_cases c166 : c = 166
  case pos =>
    subst c166
    go_wp2_with fail
    go_ret2
    exact ⟨rfl, rfl⟩
  by_cases c167 : c = 167
  case pos =>
    subst c167
    go_wp2_with fail
    go_ret2
    exact ⟨rfl, rfl⟩
  by_cases c170 : c = 170
  case pos =>
    subst c170
    go_wp2_with fail
    go_ret2
    exact ⟨rfl, rfl⟩
  by_cases c171 : c = 171
  case pos =>
    subst c171
    go_wp2_with fail
    go_ret2
    exact ⟨rfl, rfl⟩
  by_cases c172 : c = 172
  case pos =>
    subst c172
    go_wp2_with fail
    go_ret2
    exact ⟨rfl, rfl⟩
  by_cases c173 : c = 173
  case pos =>
    subst c173
    go_wp2_with fail
    go_ret2
    exact ⟨rfl, rfl⟩
  by_cases c174 : c = 174
  case pos =>
    subst c174
    go_wp2_with fail
    go_ret2
    exact ⟨rfl, rfl⟩
  by_cases c180 : c = 180
  case pos =>
    subst c180
    go_wp2_with fail
    go_ret2
    exact ⟨rfl, rfl⟩
  by_cases c181 : c = 181
  case pos =>
    subst c181
    go_wp2_with fail
    go_ret2
    exact ⟨rfl, rfl⟩
  by_cases c182 : c = 182
  case pos =>
    subst c182
    go_wp2_with fail
    go_ret2
    exact ⟨rfl, rfl⟩
  by_cases c183 : c = 183
  case pos =>
    subst c183
    go_wp2_with fail
    go_ret2
    exact ⟨rfl, rfl⟩
  by_cases c184 : c = 184
  case pos =>
    subst c184
    go_wp2_with fail
    go_ret2
    exact ⟨rfl, rfl⟩
  by_cases c185 : c = 185
  case pos =>
    subst c185
    go_wp2_with fail
    go_ret2
    exact ⟨rfl, rfl⟩
  by_cases c186 : c = 186
  case pos =>
    subst c186
    go_wp2_with fail
    go_ret2
    exact ⟨rfl, rfl⟩
  by_cases c187 : c = 187
  case pos =>
    subst c187
    go_wp2_with fail
    go_ret2
    exact ⟨rfl, rfl⟩
  by_cases c188 : c = 188
  case pos =>
    subst c188
    go_wp2_with fail
    go_ret2
    exact ⟨rfl, rfl⟩
  by_cases c189 : c = 189
  case pos =>
    subst c189
    go_wp2_with fail
    go_ret2
    exact ⟨rfl, rfl⟩
  by_cases c190 : c = 190
  case pos =>
    subst c190
    go_wp2_with fail
    go_ret2
    exact ⟨rfl, rfl⟩
  by_cases c191 : c = 191
  case pos =>
    subst c191
    go_wp2_with fail
    go_ret2
    exact ⟨rfl, rfl⟩
  by_cases c192 : c = 192
  case pos =>
    subst c192
    go_wp2_with fail
    go_ret2
    exact ⟨rfl, rfl⟩
  by_cases c193 : c = 193
  case pos =>
    subst c193
    go_wp2_with fail
    go_ret2
    exact ⟨rfl, rfl⟩
  by_cases c194 : c = 194
  case pos =>
    subst c194
    go_wp2_with fail
    go_ret2
    exact ⟨rfl, rfl⟩
  have hn : ¬ c ∈ ks27.map (fun (k : Nat) => (k : Int)) := by simp [ks27]; omega
  rw [if_neg hn, decide_eq_false hn]
  go_wp2_with fail
  go_ret2
  exact ⟨rfl, rfl⟩
end Go.Proofs.YtdajmfhcajopcaaDoor
