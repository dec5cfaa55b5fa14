import Derived.Test.YtcehnibfmhbeiaaDoorWords
import Derived.Deep.DeepMust
namespace Go.Proofs.YtcehnibfmhbeiaaDoor
open Go.RowKit

/-- What the table of arities holds. -/
def artab : List Int := [0, 1, 1, 1, 1, 1, 1, 1, 1, 1, 1, 0, 0, 0, 0, 0, 0, 0, 0, 0, 2, 2, 2, 0, 0, 0, 0, 0, 0, 0, 3, 3, 3, 3, 3, 3, 3, 0, 0, 0, 3, 3, 3, 3, 3, 3, 0, 0, 0, 0, 3, 3]
def ArOk (w : World) : Prop := ∀ i : Nat, i < 52 → w.cell? ⟨0, i, none⟩ = some (.int .i64 (artab.getD i 0))
theorem ArOk.size {w : World} (h : ArOk w) : 0 < w.heap.size := by
  have := h 0 (by decide)
  rcases Nat.eq_zero_or_pos w.heap.size with h0 | h0
  · simp [World.cell?, h0] at this
  · exact h0
/-- From w0 on nothing that was there has turned, and the table stands. -/
def St (w0 w : World) : Prop := ArOk w ∧ Grown w0 w
theorem St.alloc {w0 w : World} (h : St w0 w) (c : Array Value) (t : TypeId) : St w0 (w.alloc (.cells c t)) :=
  ⟨fun i hi => (World.cell?_of_block (w := w) (Below.heap_alloc w _ 0 h.1.size)).trans (h.1 i hi), h.2.alloc c t⟩

set_option maxHeartbeats 400000 in
theorem arity_20 (w : World) (hA : ArOk w) : Calls Tryd.prog 20 #[.int .i64 20] w fun e w' => e = .returned (.int .i64 1) ∧ w' = w := by
  have h : w.cell? ⟨0, 20, none⟩ = some (.int .i64 2) := hA 20 (by decide)
  clear hA
  go_enter Tryd.func20, Tryd.ntmps20
  go_wp2
  go_ret
  exact ⟨rfl, rfl⟩

set_option maxHeartbeats 400000 in
theorem arity_21 (w : World) (hA : ArOk w) : Calls Tryd.prog 20 #[.int .i64 21] w fun e w' => e = .returned (.int .i64 1) ∧ w' = w := by
  have h : w.cell? ⟨0, 21, none⟩ = some (.int .i64 2) := hA 21 (by decide)
  clear hA
  go_enter Tryd.func20, Tryd.ntmps20
  go_wp2
  go_ret
  exact ⟨rfl, rfl⟩

set_option maxHeartbeats 400000 in
theorem arity_22 (w : World) (hA : ArOk w) : Calls Tryd.prog 20 #[.int .i64 22] w fun e w' => e = .returned (.int .i64 1) ∧ w' = w := by
  have h : w.cell? ⟨0, 22, none⟩ = some (.int .i64 2) := hA 22 (by decide)
  clear hA
  go_enter Tryd.func20, Tryd.ntmps20
  go_wp2
  go_ret
  exact ⟨rfl, rfl⟩

set_option maxHeartbeats 400000 in
theorem arity_30 (w : World) (hA : ArOk w) : Calls Tryd.prog 20 #[.int .i64 30] w fun e w' => e = .returned (.int .i64 2) ∧ w' = w := by
  have h : w.cell? ⟨0, 30, none⟩ = some (.int .i64 3) := hA 30 (by decide)
  clear hA
  go_enter Tryd.func20, Tryd.ntmps20
  go_wp2
  go_ret
  exact ⟨rfl, rfl⟩

set_option maxHeartbeats 400000 in
theorem arity_31 (w : World) (hA : ArOk w) : Calls Tryd.prog 20 #[.int .i64 31] w fun e w' => e = .returned (.int .i64 2) ∧ w' = w := by
  have h : w.cell? ⟨0, 31, none⟩ = some (.int .i64 3) := hA 31 (by decide)
  clear hA
  go_enter Tryd.func20, Tryd.ntmps20
  go_wp2
  go_ret
  exact ⟨rfl, rfl⟩

set_option maxHeartbeats 400000 in
theorem arity_32 (w : World) (hA : ArOk w) : Calls Tryd.prog 20 #[.int .i64 32] w fun e w' => e = .returned (.int .i64 2) ∧ w' = w := by
  have h : w.cell? ⟨0, 32, none⟩ = some (.int .i64 3) := hA 32 (by decide)
  clear hA
  go_enter Tryd.func20, Tryd.ntmps20
  go_wp2
  go_ret
  exact ⟨rfl, rfl⟩

set_option maxHeartbeats 400000 in
theorem arity_33 (w : World) (hA : ArOk w) : Calls Tryd.prog 20 #[.int .i64 33] w fun e w' => e = .returned (.int .i64 2) ∧ w' = w := by
  have h : w.cell? ⟨0, 33, none⟩ = some (.int .i64 3) := hA 33 (by decide)
  clear hA
  go_enter Tryd.func20, Tryd.ntmps20
  go_wp2
  go_ret
  exact ⟨rfl, rfl⟩

set_option maxHeartbeats 400000 in
theorem arity_34 (w : World) (hA : ArOk w) : Calls Tryd.prog 20 #[.int .i64 34] w fun e w' => e = .returned (.int .i64 2) ∧ w' = w := by
  have h : w.cell? ⟨0, 34, none⟩ = some (.int .i64 3) := hA 34 (by decide)
  clear hA
  go_enter Tryd.func20, Tryd.ntmps20
  go_wp2
  go_ret
  exact ⟨rfl, rfl⟩

set_option maxHeartbeats 400000 in
theorem arity_35 (w : World) (hA : ArOk w) : Calls Tryd.prog 20 #[.int .i64 35] w fun e w' => e = .returned (.int .i64 2) ∧ w' = w := by
  have h : w.cell? ⟨0, 35, none⟩ = some (.int .i64 3) := hA 35 (by decide)
  clear hA
  go_enter Tryd.func20, Tryd.ntmps20
  go_wp2
  go_ret
  exact ⟨rfl, rfl⟩

set_option maxHeartbeats 400000 in
theorem arity_36 (w : World) (hA : ArOk w) : Calls Tryd.prog 20 #[.int .i64 36] w fun e w' => e = .returned (.int .i64 2) ∧ w' = w := by
  have h : w.cell? ⟨0, 36, none⟩ = some (.int .i64 3) := hA 36 (by decide)
  clear hA
  go_enter Tryd.func20, Tryd.ntmps20
  go_wp2
  go_ret
  exact ⟨rfl, rfl⟩

set_option maxHeartbeats 400000 in
theorem arity_40 (w : World) (hA : ArOk w) : Calls Tryd.prog 20 #[.int .i64 40] w fun e w' => e = .returned (.int .i64 2) ∧ w' = w := by
  have h : w.cell? ⟨0, 40, none⟩ = some (.int .i64 3) := hA 40 (by decide)
  clear hA
  go_enter Tryd.func20, Tryd.ntmps20
  go_wp2
  go_ret
  exact ⟨rfl, rfl⟩

set_option maxHeartbeats 400000 in
theorem arity_41 (w : World) (hA : ArOk w) : Calls Tryd.prog 20 #[.int .i64 41] w fun e w' => e = .returned (.int .i64 2) ∧ w' = w := by
  have h : w.cell? ⟨0, 41, none⟩ = some (.int .i64 3) := hA 41 (by decide)
  clear hA
  go_enter Tryd.func20, Tryd.ntmps20
  go_wp2
  go_ret
  exact ⟨rfl, rfl⟩

set_option maxHeartbeats 400000 in
theorem arity_42 (w : World) (hA : ArOk w) : Calls Tryd.prog 20 #[.int .i64 42] w fun e w' => e = .returned (.int .i64 2) ∧ w' = w := by
  have h : w.cell? ⟨0, 42, none⟩ = some (.int .i64 3) := hA 42 (by decide)
  clear hA
  go_enter Tryd.func20, Tryd.ntmps20
  go_wp2
  go_ret
  exact ⟨rfl, rfl⟩

set_option maxHeartbeats 400000 in
theorem arity_43 (w : World) (hA : ArOk w) : Calls Tryd.prog 20 #[.int .i64 43] w fun e w' => e = .returned (.int .i64 2) ∧ w' = w := by
  have h : w.cell? ⟨0, 43, none⟩ = some (.int .i64 3) := hA 43 (by decide)
  clear hA
  go_enter Tryd.func20, Tryd.ntmps20
  go_wp2
  go_ret
  exact ⟨rfl, rfl⟩

set_option maxHeartbeats 400000 in
theorem arity_44 (w : World) (hA : ArOk w) : Calls Tryd.prog 20 #[.int .i64 44] w fun e w' => e = .returned (.int .i64 2) ∧ w' = w := by
  have h : w.cell? ⟨0, 44, none⟩ = some (.int .i64 3) := hA 44 (by decide)
  clear hA
  go_enter Tryd.func20, Tryd.ntmps20
  go_wp2
  go_ret
  exact ⟨rfl, rfl⟩

set_option maxHeartbeats 400000 in
theorem arity_45 (w : World) (hA : ArOk w) : Calls Tryd.prog 20 #[.int .i64 45] w fun e w' => e = .returned (.int .i64 2) ∧ w' = w := by
  have h : w.cell? ⟨0, 45, none⟩ = some (.int .i64 3) := hA 45 (by decide)
  clear hA
  go_enter Tryd.func20, Tryd.ntmps20
  go_wp2
  go_ret
  exact ⟨rfl, rfl⟩

set_option maxHeartbeats 400000 in
theorem arity_50 (w : World) (hA : ArOk w) : Calls Tryd.prog 20 #[.int .i64 50] w fun e w' => e = .returned (.int .i64 2) ∧ w' = w := by
  have h : w.cell? ⟨0, 50, none⟩ = some (.int .i64 3) := hA 50 (by decide)
  clear hA
  go_enter Tryd.func20, Tryd.ntmps20
  go_wp2
  go_ret
  exact ⟨rfl, rfl⟩

set_option maxHeartbeats 400000 in
theorem arity_51 (w : World) (hA : ArOk w) : Calls Tryd.prog 20 #[.int .i64 51] w fun e w' => e = .returned (.int .i64 2) ∧ w' = w := by
  have h : w.cell? ⟨0, 51, none⟩ = some (.int .i64 3) := hA 51 (by decide)
  clear hA
  go_enter Tryd.func20, Tryd.ntmps20
  go_wp2
  go_ret
  exact ⟨rfl, rfl⟩

set_option maxHeartbeats 400000 in
theorem binary_30 (a b : Int) (w : World) (hA : ArOk w) :
    Calls Tryd.prog 17 #[.int .i64 30, .int .i32 a, .int .i32 b] w fun e w' => e = .returned (.tuple #[.int .i32 (wrap32 (a + b)), .int .i64 0]) ∧ w' = w.alloc (.cells tbl46 46) := by
  have hs : tbl46.size = 52 := rfl
  have ht : tbl46[30]'(by decide) = .func (.func 27) #[] #[] := rfl
  go_enter Tryd.func17, Tryd.ntmps17
  go_wp2_with (first | (go_at_call 20; refine (arity_30 _ hA).mono ?_; rintro e w' ⟨rfl, rfl⟩) | (go_at_call 27; refine (plus_any _ _ _).mono ?_; rintro e w' ⟨rfl, rfl⟩) | (guard_target =~ wpList _ _ _ (_ :: { dst := _, op := Op.alloc 46, type := _, pos := _, after := _, guard := _ } :: _) _ _; go_must (refine wpList_table rfl rfl rfl 46 _ _ _ rfl rfl rfl tbl46 zer46 (built46 _) alloc46 rfl rfl info46 rfl (by kernel_rfl) ?_)))
  go_ret2
  exact ⟨rfl, rfl⟩

set_option maxHeartbeats 400000 in
theorem bin_30 (a b : Int) (w0 w : World) (hA : St w0 w) :
    Calls Tryd.prog 8 #[.int .i64 30, .int .i32 a, .int .i32 b] w fun e w' => e = .returned (.tuple #[.int .i32 (wrap32 (a + b)), .bool true]) ∧ St w0 w' := by
  go_enter Tryd.func8, Tryd.ntmps8
  go_wp2_with (go_at_call 17; refine (binary_30 _ _ _ hA.1).mono ?_; rintro e w' ⟨rfl, rfl⟩)
  go_ret2
  exact ⟨rfl, hA.alloc _ _⟩

set_option maxHeartbeats 400000 in
theorem binary_31 (a b : Int) (w : World) (hA : ArOk w) :
    Calls Tryd.prog 17 #[.int .i64 31, .int .i32 a, .int .i32 b] w fun e w' => e = .returned (.tuple #[.int .i32 (wrap32 (a - b)), .int .i64 0]) ∧ w' = w.alloc (.cells tbl46 46) := by
  have hs : tbl46.size = 52 := rfl
  have ht : tbl46[31]'(by decide) = .func (.func 28) #[] #[] := rfl
  go_enter Tryd.func17, Tryd.ntmps17
  go_wp2_with (first | (go_at_call 20; refine (arity_31 _ hA).mono ?_; rintro e w' ⟨rfl, rfl⟩) | (go_at_call 28; refine (minus_any _ _ _).mono ?_; rintro e w' ⟨rfl, rfl⟩) | (guard_target =~ wpList _ _ _ (_ :: { dst := _, op := Op.alloc 46, type := _, pos := _, after := _, guard := _ } :: _) _ _; go_must (refine wpList_table rfl rfl rfl 46 _ _ _ rfl rfl rfl tbl46 zer46 (built46 _) alloc46 rfl rfl info46 rfl (by kernel_rfl) ?_)))
  go_ret2
  exact ⟨rfl, rfl⟩

set_option maxHeartbeats 400000 in
theorem bin_31 (a b : Int) (w0 w : World) (hA : St w0 w) :
    Calls Tryd.prog 8 #[.int .i64 31, .int .i32 a, .int .i32 b] w fun e w' => e = .returned (.tuple #[.int .i32 (wrap32 (a - b)), .bool true]) ∧ St w0 w' := by
  go_enter Tryd.func8, Tryd.ntmps8
  go_wp2_with (go_at_call 17; refine (binary_31 _ _ _ hA.1).mono ?_; rintro e w' ⟨rfl, rfl⟩)
  go_ret2
  exact ⟨rfl, hA.alloc _ _⟩

set_option maxHeartbeats 400000 in
theorem binary_32 (a b : Int) (w : World) (hA : ArOk w) :
    Calls Tryd.prog 17 #[.int .i64 32, .int .i32 a, .int .i32 b] w fun e w' => e = .returned (.tuple #[.int .i32 (wrap32 (a * b)), .int .i64 0]) ∧ w' = w.alloc (.cells tbl46 46) := by
  have hs : tbl46.size = 52 := rfl
  have ht : tbl46[32]'(by decide) = .func (.func 29) #[] #[] := rfl
  go_enter Tryd.func17, Tryd.ntmps17
  go_wp2_with (first | (go_at_call 20; refine (arity_32 _ hA).mono ?_; rintro e w' ⟨rfl, rfl⟩) | (go_at_call 29; refine (times_any _ _ _).mono ?_; rintro e w' ⟨rfl, rfl⟩) | (guard_target =~ wpList _ _ _ (_ :: { dst := _, op := Op.alloc 46, type := _, pos := _, after := _, guard := _ } :: _) _ _; go_must (refine wpList_table rfl rfl rfl 46 _ _ _ rfl rfl rfl tbl46 zer46 (built46 _) alloc46 rfl rfl info46 rfl (by kernel_rfl) ?_)))
  go_ret2
  exact ⟨rfl, rfl⟩

set_option maxHeartbeats 400000 in
theorem bin_32 (a b : Int) (w0 w : World) (hA : St w0 w) :
    Calls Tryd.prog 8 #[.int .i64 32, .int .i32 a, .int .i32 b] w fun e w' => e = .returned (.tuple #[.int .i32 (wrap32 (a * b)), .bool true]) ∧ St w0 w' := by
  go_enter Tryd.func8, Tryd.ntmps8
  go_wp2_with (go_at_call 17; refine (binary_32 _ _ _ hA.1).mono ?_; rintro e w' ⟨rfl, rfl⟩)
  go_ret2
  exact ⟨rfl, hA.alloc _ _⟩

set_option maxHeartbeats 400000 in
theorem binary_33 (a b : Int) (w : World) (hA : ArOk w) (h : (b == 0) = false) (h2 : b ≠ 0) :
    Calls Tryd.prog 17 #[.int .i64 33, .int .i32 a, .int .i32 b] w fun e w' => e = .returned (.tuple #[.int .i32 (wrap32 (a.tdiv b)), .int .i64 0]) ∧ w' = w.alloc (.cells tbl46 46) := by
  have hs : tbl46.size = 52 := rfl
  have ht : tbl46[33]'(by decide) = .func (.func 30) #[] #[] := rfl
  go_enter Tryd.func17, Tryd.ntmps17
  go_wp2_with (first | (go_at_call 20; refine (arity_33 _ hA).mono ?_; rintro e w' ⟨rfl, rfl⟩) | (go_at_call 30; refine (over_any _ _ _ h h2).mono ?_; rintro e w' ⟨rfl, rfl⟩) | (guard_target =~ wpList _ _ _ (_ :: { dst := _, op := Op.alloc 46, type := _, pos := _, after := _, guard := _ } :: _) _ _; go_must (refine wpList_table rfl rfl rfl 46 _ _ _ rfl rfl rfl tbl46 zer46 (built46 _) alloc46 rfl rfl info46 rfl (by kernel_rfl) ?_)))
  go_ret2
  exact ⟨rfl, rfl⟩

set_option maxHeartbeats 400000 in
theorem bin_33 (a b : Int) (w0 w : World) (hA : St w0 w) (h : (b == 0) = false) (h2 : b ≠ 0) :
    Calls Tryd.prog 8 #[.int .i64 33, .int .i32 a, .int .i32 b] w fun e w' => e = .returned (.tuple #[.int .i32 (wrap32 (a.tdiv b)), .bool true]) ∧ St w0 w' := by
  go_enter Tryd.func8, Tryd.ntmps8
  go_wp2_with (go_at_call 17; refine (binary_33 _ _ _ hA.1 h h2).mono ?_; rintro e w' ⟨rfl, rfl⟩)
  go_ret2
  exact ⟨rfl, hA.alloc _ _⟩

set_option maxHeartbeats 400000 in
theorem binary_33z (a b : Int) (w : World) (hA : ArOk w) (h : (b == 0) = true) :
    Calls Tryd.prog 17 #[.int .i64 33, .int .i32 a, .int .i32 b] w fun e w' => e = .returned (.tuple #[.int .i32 (0), .int .i64 0]) ∧ w' = w.alloc (.cells tbl46 46) := by
  have hs : tbl46.size = 52 := rfl
  have ht : tbl46[33]'(by decide) = .func (.func 30) #[] #[] := rfl
  go_enter Tryd.func17, Tryd.ntmps17
  go_wp2_with (first | (go_at_call 20; refine (arity_33 _ hA).mono ?_; rintro e w' ⟨rfl, rfl⟩) | (go_at_call 30; refine (over_zero _ _ _ h).mono ?_; rintro e w' ⟨rfl, rfl⟩) | (guard_target =~ wpList _ _ _ (_ :: { dst := _, op := Op.alloc 46, type := _, pos := _, after := _, guard := _ } :: _) _ _; go_must (refine wpList_table rfl rfl rfl 46 _ _ _ rfl rfl rfl tbl46 zer46 (built46 _) alloc46 rfl rfl info46 rfl (by kernel_rfl) ?_)))
  go_ret2
  exact ⟨rfl, rfl⟩

set_option maxHeartbeats 400000 in
theorem bin_33z (a b : Int) (w0 w : World) (hA : St w0 w) (h : (b == 0) = true) :
    Calls Tryd.prog 8 #[.int .i64 33, .int .i32 a, .int .i32 b] w fun e w' => e = .returned (.tuple #[.int .i32 (0), .bool true]) ∧ St w0 w' := by
  go_enter Tryd.func8, Tryd.ntmps8
  go_wp2_with (go_at_call 17; refine (binary_33z _ _ _ hA.1 h).mono ?_; rintro e w' ⟨rfl, rfl⟩)
  go_ret2
  exact ⟨rfl, hA.alloc _ _⟩

set_option maxHeartbeats 400000 in
theorem binary_34 (a b : Int) (w : World) (hA : ArOk w) (h : (b == 0) = false) (h2 : b ≠ 0) :
    Calls Tryd.prog 17 #[.int .i64 34, .int .i32 a, .int .i32 b] w fun e w' => e = .returned (.tuple #[.int .i32 (a.tmod b), .int .i64 0]) ∧ w' = w.alloc (.cells tbl46 46) := by
  have hs : tbl46.size = 52 := rfl
  have ht : tbl46[34]'(by decide) = .func (.func 31) #[] #[] := rfl
  go_enter Tryd.func17, Tryd.ntmps17
  go_wp2_with (first | (go_at_call 20; refine (arity_34 _ hA).mono ?_; rintro e w' ⟨rfl, rfl⟩) | (go_at_call 31; refine (rest_any _ _ _ h h2).mono ?_; rintro e w' ⟨rfl, rfl⟩) | (guard_target =~ wpList _ _ _ (_ :: { dst := _, op := Op.alloc 46, type := _, pos := _, after := _, guard := _ } :: _) _ _; go_must (refine wpList_table rfl rfl rfl 46 _ _ _ rfl rfl rfl tbl46 zer46 (built46 _) alloc46 rfl rfl info46 rfl (by kernel_rfl) ?_)))
  go_ret2
  exact ⟨rfl, rfl⟩

set_option maxHeartbeats 400000 in
theorem bin_34 (a b : Int) (w0 w : World) (hA : St w0 w) (h : (b == 0) = false) (h2 : b ≠ 0) :
    Calls Tryd.prog 8 #[.int .i64 34, .int .i32 a, .int .i32 b] w fun e w' => e = .returned (.tuple #[.int .i32 (a.tmod b), .bool true]) ∧ St w0 w' := by
  go_enter Tryd.func8, Tryd.ntmps8
  go_wp2_with (go_at_call 17; refine (binary_34 _ _ _ hA.1 h h2).mono ?_; rintro e w' ⟨rfl, rfl⟩)
  go_ret2
  exact ⟨rfl, hA.alloc _ _⟩

set_option maxHeartbeats 400000 in
theorem binary_34z (a b : Int) (w : World) (hA : ArOk w) (h : (b == 0) = true) :
    Calls Tryd.prog 17 #[.int .i64 34, .int .i32 a, .int .i32 b] w fun e w' => e = .returned (.tuple #[.int .i32 (0), .int .i64 0]) ∧ w' = w.alloc (.cells tbl46 46) := by
  have hs : tbl46.size = 52 := rfl
  have ht : tbl46[34]'(by decide) = .func (.func 31) #[] #[] := rfl
  go_enter Tryd.func17, Tryd.ntmps17
  go_wp2_with (first | (go_at_call 20; refine (arity_34 _ hA).mono ?_; rintro e w' ⟨rfl, rfl⟩) | (go_at_call 31; refine (rest_zero _ _ _ h).mono ?_; rintro e w' ⟨rfl, rfl⟩) | (guard_target =~ wpList _ _ _ (_ :: { dst := _, op := Op.alloc 46, type := _, pos := _, after := _, guard := _ } :: _) _ _; go_must (refine wpList_table rfl rfl rfl 46 _ _ _ rfl rfl rfl tbl46 zer46 (built46 _) alloc46 rfl rfl info46 rfl (by kernel_rfl) ?_)))
  go_ret2
  exact ⟨rfl, rfl⟩

set_option maxHeartbeats 400000 in
theorem bin_34z (a b : Int) (w0 w : World) (hA : St w0 w) (h : (b == 0) = true) :
    Calls Tryd.prog 8 #[.int .i64 34, .int .i32 a, .int .i32 b] w fun e w' => e = .returned (.tuple #[.int .i32 (0), .bool true]) ∧ St w0 w' := by
  go_enter Tryd.func8, Tryd.ntmps8
  go_wp2_with (go_at_call 17; refine (binary_34z _ _ _ hA.1 h).mono ?_; rintro e w' ⟨rfl, rfl⟩)
  go_ret2
  exact ⟨rfl, hA.alloc _ _⟩

set_option maxHeartbeats 400000 in
theorem binary_35 (a b : Int) (w : World) (hA : ArOk w) :
    Calls Tryd.prog 17 #[.int .i64 35, .int .i32 a, .int .i32 b] w fun e w' => e = .returned (.tuple #[.int .i32 (min a b), .int .i64 0]) ∧ w' = w.alloc (.cells tbl46 46) := by
  have hs : tbl46.size = 52 := rfl
  have ht : tbl46[35]'(by decide) = .func (.func 32) #[] #[] := rfl
  go_enter Tryd.func17, Tryd.ntmps17
  go_wp2_with (first | (go_at_call 20; refine (arity_35 _ hA).mono ?_; rintro e w' ⟨rfl, rfl⟩) | (go_at_call 32; refine (min_any _ _ _).mono ?_; rintro e w' ⟨rfl, rfl⟩) | (guard_target =~ wpList _ _ _ (_ :: { dst := _, op := Op.alloc 46, type := _, pos := _, after := _, guard := _ } :: _) _ _; go_must (refine wpList_table rfl rfl rfl 46 _ _ _ rfl rfl rfl tbl46 zer46 (built46 _) alloc46 rfl rfl info46 rfl (by kernel_rfl) ?_)))
  go_ret2
  exact ⟨rfl, rfl⟩

set_option maxHeartbeats 400000 in
theorem bin_35 (a b : Int) (w0 w : World) (hA : St w0 w) :
    Calls Tryd.prog 8 #[.int .i64 35, .int .i32 a, .int .i32 b] w fun e w' => e = .returned (.tuple #[.int .i32 (min a b), .bool true]) ∧ St w0 w' := by
  go_enter Tryd.func8, Tryd.ntmps8
  go_wp2_with (go_at_call 17; refine (binary_35 _ _ _ hA.1).mono ?_; rintro e w' ⟨rfl, rfl⟩)
  go_ret2
  exact ⟨rfl, hA.alloc _ _⟩

set_option maxHeartbeats 400000 in
theorem binary_36 (a b : Int) (w : World) (hA : ArOk w) :
    Calls Tryd.prog 17 #[.int .i64 36, .int .i32 a, .int .i32 b] w fun e w' => e = .returned (.tuple #[.int .i32 (max a b), .int .i64 0]) ∧ w' = w.alloc (.cells tbl46 46) := by
  have hs : tbl46.size = 52 := rfl
  have ht : tbl46[36]'(by decide) = .func (.func 33) #[] #[] := rfl
  go_enter Tryd.func17, Tryd.ntmps17
  go_wp2_with (first | (go_at_call 20; refine (arity_36 _ hA).mono ?_; rintro e w' ⟨rfl, rfl⟩) | (go_at_call 33; refine (max_any _ _ _).mono ?_; rintro e w' ⟨rfl, rfl⟩) | (guard_target =~ wpList _ _ _ (_ :: { dst := _, op := Op.alloc 46, type := _, pos := _, after := _, guard := _ } :: _) _ _; go_must (refine wpList_table rfl rfl rfl 46 _ _ _ rfl rfl rfl tbl46 zer46 (built46 _) alloc46 rfl rfl info46 rfl (by kernel_rfl) ?_)))
  go_ret2
  exact ⟨rfl, rfl⟩

set_option maxHeartbeats 400000 in
theorem bin_36 (a b : Int) (w0 w : World) (hA : St w0 w) :
    Calls Tryd.prog 8 #[.int .i64 36, .int .i32 a, .int .i32 b] w fun e w' => e = .returned (.tuple #[.int .i32 (max a b), .bool true]) ∧ St w0 w' := by
  go_enter Tryd.func8, Tryd.ntmps8
  go_wp2_with (go_at_call 17; refine (binary_36 _ _ _ hA.1).mono ?_; rintro e w' ⟨rfl, rfl⟩)
  go_ret2
  exact ⟨rfl, hA.alloc _ _⟩

set_option maxHeartbeats 400000 in
theorem binary_40 (a b : Int) (w : World) (hA : ArOk w) :
    Calls Tryd.prog 17 #[.int .i64 40, .int .i32 a, .int .i32 b] w fun e w' => e = .returned (.tuple #[.int .i32 (tr (a == b)), .int .i64 0]) ∧ w' = w.alloc (.cells tbl46 46) := by
  have hs : tbl46.size = 52 := rfl
  have ht : tbl46[40]'(by decide) = .func (.func 34) #[] #[] := rfl
  go_enter Tryd.func17, Tryd.ntmps17
  go_wp2_with (first | (go_at_call 20; refine (arity_40 _ hA).mono ?_; rintro e w' ⟨rfl, rfl⟩) | (go_at_call 34; refine (eq_any _ _ _).mono ?_; rintro e w' ⟨rfl, rfl⟩) | (guard_target =~ wpList _ _ _ (_ :: { dst := _, op := Op.alloc 46, type := _, pos := _, after := _, guard := _ } :: _) _ _; go_must (refine wpList_table rfl rfl rfl 46 _ _ _ rfl rfl rfl tbl46 zer46 (built46 _) alloc46 rfl rfl info46 rfl (by kernel_rfl) ?_)))
  go_ret2
  exact ⟨rfl, rfl⟩

set_option maxHeartbeats 400000 in
theorem bin_40 (a b : Int) (w0 w : World) (hA : St w0 w) :
    Calls Tryd.prog 8 #[.int .i64 40, .int .i32 a, .int .i32 b] w fun e w' => e = .returned (.tuple #[.int .i32 (tr (a == b)), .bool true]) ∧ St w0 w' := by
  go_enter Tryd.func8, Tryd.ntmps8
  go_wp2_with (go_at_call 17; refine (binary_40 _ _ _ hA.1).mono ?_; rintro e w' ⟨rfl, rfl⟩)
  go_ret2
  exact ⟨rfl, hA.alloc _ _⟩

set_option maxHeartbeats 400000 in
theorem binary_41 (a b : Int) (w : World) (hA : ArOk w) :
    Calls Tryd.prog 17 #[.int .i64 41, .int .i32 a, .int .i32 b] w fun e w' => e = .returned (.tuple #[.int .i32 (tr (a != b)), .int .i64 0]) ∧ w' = w.alloc (.cells tbl46 46) := by
  have hs : tbl46.size = 52 := rfl
  have ht : tbl46[41]'(by decide) = .func (.func 35) #[] #[] := rfl
  go_enter Tryd.func17, Tryd.ntmps17
  go_wp2_with (first | (go_at_call 20; refine (arity_41 _ hA).mono ?_; rintro e w' ⟨rfl, rfl⟩) | (go_at_call 35; refine (ne_any _ _ _).mono ?_; rintro e w' ⟨rfl, rfl⟩) | (guard_target =~ wpList _ _ _ (_ :: { dst := _, op := Op.alloc 46, type := _, pos := _, after := _, guard := _ } :: _) _ _; go_must (refine wpList_table rfl rfl rfl 46 _ _ _ rfl rfl rfl tbl46 zer46 (built46 _) alloc46 rfl rfl info46 rfl (by kernel_rfl) ?_)))
  go_ret2
  exact ⟨rfl, rfl⟩

set_option maxHeartbeats 400000 in
theorem bin_41 (a b : Int) (w0 w : World) (hA : St w0 w) :
    Calls Tryd.prog 8 #[.int .i64 41, .int .i32 a, .int .i32 b] w fun e w' => e = .returned (.tuple #[.int .i32 (tr (a != b)), .bool true]) ∧ St w0 w' := by
  go_enter Tryd.func8, Tryd.ntmps8
  go_wp2_with (go_at_call 17; refine (binary_41 _ _ _ hA.1).mono ?_; rintro e w' ⟨rfl, rfl⟩)
  go_ret2
  exact ⟨rfl, hA.alloc _ _⟩

set_option maxHeartbeats 400000 in
theorem binary_42 (a b : Int) (w : World) (hA : ArOk w) :
    Calls Tryd.prog 17 #[.int .i64 42, .int .i32 a, .int .i32 b] w fun e w' => e = .returned (.tuple #[.int .i32 (tr (decide (a < b))), .int .i64 0]) ∧ w' = w.alloc (.cells tbl46 46) := by
  have hs : tbl46.size = 52 := rfl
  have ht : tbl46[42]'(by decide) = .func (.func 36) #[] #[] := rfl
  go_enter Tryd.func17, Tryd.ntmps17
  go_wp2_with (first | (go_at_call 20; refine (arity_42 _ hA).mono ?_; rintro e w' ⟨rfl, rfl⟩) | (go_at_call 36; refine (lt_any _ _ _).mono ?_; rintro e w' ⟨rfl, rfl⟩) | (guard_target =~ wpList _ _ _ (_ :: { dst := _, op := Op.alloc 46, type := _, pos := _, after := _, guard := _ } :: _) _ _; go_must (refine wpList_table rfl rfl rfl 46 _ _ _ rfl rfl rfl tbl46 zer46 (built46 _) alloc46 rfl rfl info46 rfl (by kernel_rfl) ?_)))
  go_ret2
  exact ⟨rfl, rfl⟩

set_option maxHeartbeats 400000 in
theorem bin_42 (a b : Int) (w0 w : World) (hA : St w0 w) :
    Calls Tryd.prog 8 #[.int .i64 42, .int .i32 a, .int .i32 b] w fun e w' => e = .returned (.tuple #[.int .i32 (tr (decide (a < b))), .bool true]) ∧ St w0 w' := by
  go_enter Tryd.func8, Tryd.ntmps8
  go_wp2_with (go_at_call 17; refine (binary_42 _ _ _ hA.1).mono ?_; rintro e w' ⟨rfl, rfl⟩)
  go_ret2
  exact ⟨rfl, hA.alloc _ _⟩

set_option maxHeartbeats 400000 in
theorem binary_43 (a b : Int) (w : World) (hA : ArOk w) :
    Calls Tryd.prog 17 #[.int .i64 43, .int .i32 a, .int .i32 b] w fun e w' => e = .returned (.tuple #[.int .i32 (tr (decide (a ≤ b))), .int .i64 0]) ∧ w' = w.alloc (.cells tbl46 46) := by
  have hs : tbl46.size = 52 := rfl
  have ht : tbl46[43]'(by decide) = .func (.func 37) #[] #[] := rfl
  go_enter Tryd.func17, Tryd.ntmps17
  go_wp2_with (first | (go_at_call 20; refine (arity_43 _ hA).mono ?_; rintro e w' ⟨rfl, rfl⟩) | (go_at_call 37; refine (le_any _ _ _).mono ?_; rintro e w' ⟨rfl, rfl⟩) | (guard_target =~ wpList _ _ _ (_ :: { dst := _, op := Op.alloc 46, type := _, pos := _, after := _, guard := _ } :: _) _ _; go_must (refine wpList_table rfl rfl rfl 46 _ _ _ rfl rfl rfl tbl46 zer46 (built46 _) alloc46 rfl rfl info46 rfl (by kernel_rfl) ?_)))
  go_ret2
  exact ⟨rfl, rfl⟩

set_option maxHeartbeats 400000 in
theorem bin_43 (a b : Int) (w0 w : World) (hA : St w0 w) :
    Calls Tryd.prog 8 #[.int .i64 43, .int .i32 a, .int .i32 b] w fun e w' => e = .returned (.tuple #[.int .i32 (tr (decide (a ≤ b))), .bool true]) ∧ St w0 w' := by
  go_enter Tryd.func8, Tryd.ntmps8
  go_wp2_with (go_at_call 17; refine (binary_43 _ _ _ hA.1).mono ?_; rintro e w' ⟨rfl, rfl⟩)
  go_ret2
  exact ⟨rfl, hA.alloc _ _⟩

set_option maxHeartbeats 400000 in
theorem binary_44 (a b : Int) (w : World) (hA : ArOk w) :
    Calls Tryd.prog 17 #[.int .i64 44, .int .i32 a, .int .i32 b] w fun e w' => e = .returned (.tuple #[.int .i32 (tr (decide (b < a))), .int .i64 0]) ∧ w' = w.alloc (.cells tbl46 46) := by
  have hs : tbl46.size = 52 := rfl
  have ht : tbl46[44]'(by decide) = .func (.func 38) #[] #[] := rfl
  go_enter Tryd.func17, Tryd.ntmps17
  go_wp2_with (first | (go_at_call 20; refine (arity_44 _ hA).mono ?_; rintro e w' ⟨rfl, rfl⟩) | (go_at_call 38; refine (gt_any _ _ _).mono ?_; rintro e w' ⟨rfl, rfl⟩) | (guard_target =~ wpList _ _ _ (_ :: { dst := _, op := Op.alloc 46, type := _, pos := _, after := _, guard := _ } :: _) _ _; go_must (refine wpList_table rfl rfl rfl 46 _ _ _ rfl rfl rfl tbl46 zer46 (built46 _) alloc46 rfl rfl info46 rfl (by kernel_rfl) ?_)))
  go_ret2
  exact ⟨rfl, rfl⟩

set_option maxHeartbeats 400000 in
theorem bin_44 (a b : Int) (w0 w : World) (hA : St w0 w) :
    Calls Tryd.prog 8 #[.int .i64 44, .int .i32 a, .int .i32 b] w fun e w' => e = .returned (.tuple #[.int .i32 (tr (decide (b < a))), .bool true]) ∧ St w0 w' := by
  go_enter Tryd.func8, Tryd.ntmps8
  go_wp2_with (go_at_call 17; refine (binary_44 _ _ _ hA.1).mono ?_; rintro e w' ⟨rfl, rfl⟩)
  go_ret2
  exact ⟨rfl, hA.alloc _ _⟩

set_option maxHeartbeats 400000 in
theorem binary_45 (a b : Int) (w : World) (hA : ArOk w) :
    Calls Tryd.prog 17 #[.int .i64 45, .int .i32 a, .int .i32 b] w fun e w' => e = .returned (.tuple #[.int .i32 (tr (decide (b ≤ a))), .int .i64 0]) ∧ w' = w.alloc (.cells tbl46 46) := by
  have hs : tbl46.size = 52 := rfl
  have ht : tbl46[45]'(by decide) = .func (.func 39) #[] #[] := rfl
  go_enter Tryd.func17, Tryd.ntmps17
  go_wp2_with (first | (go_at_call 20; refine (arity_45 _ hA).mono ?_; rintro e w' ⟨rfl, rfl⟩) | (go_at_call 39; refine (ge_any _ _ _).mono ?_; rintro e w' ⟨rfl, rfl⟩) | (guard_target =~ wpList _ _ _ (_ :: { dst := _, op := Op.alloc 46, type := _, pos := _, after := _, guard := _ } :: _) _ _; go_must (refine wpList_table rfl rfl rfl 46 _ _ _ rfl rfl rfl tbl46 zer46 (built46 _) alloc46 rfl rfl info46 rfl (by kernel_rfl) ?_)))
  go_ret2
  exact ⟨rfl, rfl⟩

set_option maxHeartbeats 400000 in
theorem bin_45 (a b : Int) (w0 w : World) (hA : St w0 w) :
    Calls Tryd.prog 8 #[.int .i64 45, .int .i32 a, .int .i32 b] w fun e w' => e = .returned (.tuple #[.int .i32 (tr (decide (b ≤ a))), .bool true]) ∧ St w0 w' := by
  go_enter Tryd.func8, Tryd.ntmps8
  go_wp2_with (go_at_call 17; refine (binary_45 _ _ _ hA.1).mono ?_; rintro e w' ⟨rfl, rfl⟩)
  go_ret2
  exact ⟨rfl, hA.alloc _ _⟩

set_option maxHeartbeats 400000 in
theorem binary_50 (a b : Int) (w : World) (hA : ArOk w) :
    Calls Tryd.prog 17 #[.int .i64 50, .int .i32 a, .int .i32 b] w fun e w' => e = .returned (.tuple #[.int .i32 (tr (a != 0 && b != 0)), .int .i64 0]) ∧ w' = w.alloc (.cells tbl46 46) := by
  have hs : tbl46.size = 52 := rfl
  have ht : tbl46[50]'(by decide) = .func (.func 40) #[] #[] := rfl
  go_enter Tryd.func17, Tryd.ntmps17
  go_wp2_with (first | (go_at_call 20; refine (arity_50 _ hA).mono ?_; rintro e w' ⟨rfl, rfl⟩) | (go_at_call 40; refine (and_any _ _ _).mono ?_; rintro e w' ⟨rfl, rfl⟩) | (guard_target =~ wpList _ _ _ (_ :: { dst := _, op := Op.alloc 46, type := _, pos := _, after := _, guard := _ } :: _) _ _; go_must (refine wpList_table rfl rfl rfl 46 _ _ _ rfl rfl rfl tbl46 zer46 (built46 _) alloc46 rfl rfl info46 rfl (by kernel_rfl) ?_)))
  go_ret2
  exact ⟨rfl, rfl⟩

set_option maxHeartbeats 400000 in
theorem bin_50 (a b : Int) (w0 w : World) (hA : St w0 w) :
    Calls Tryd.prog 8 #[.int .i64 50, .int .i32 a, .int .i32 b] w fun e w' => e = .returned (.tuple #[.int .i32 (tr (a != 0 && b != 0)), .bool true]) ∧ St w0 w' := by
  go_enter Tryd.func8, Tryd.ntmps8
  go_wp2_with (go_at_call 17; refine (binary_50 _ _ _ hA.1).mono ?_; rintro e w' ⟨rfl, rfl⟩)
  go_ret2
  exact ⟨rfl, hA.alloc _ _⟩

set_option maxHeartbeats 400000 in
theorem binary_51 (a b : Int) (w : World) (hA : ArOk w) :
    Calls Tryd.prog 17 #[.int .i64 51, .int .i32 a, .int .i32 b] w fun e w' => e = .returned (.tuple #[.int .i32 (tr (a != 0 || b != 0)), .int .i64 0]) ∧ w' = w.alloc (.cells tbl46 46) := by
  have hs : tbl46.size = 52 := rfl
  have ht : tbl46[51]'(by decide) = .func (.func 41) #[] #[] := rfl
  go_enter Tryd.func17, Tryd.ntmps17
  go_wp2_with (first | (go_at_call 20; refine (arity_51 _ hA).mono ?_; rintro e w' ⟨rfl, rfl⟩) | (go_at_call 41; refine (or_any _ _ _).mono ?_; rintro e w' ⟨rfl, rfl⟩) | (guard_target =~ wpList _ _ _ (_ :: { dst := _, op := Op.alloc 46, type := _, pos := _, after := _, guard := _ } :: _) _ _; go_must (refine wpList_table rfl rfl rfl 46 _ _ _ rfl rfl rfl tbl46 zer46 (built46 _) alloc46 rfl rfl info46 rfl (by kernel_rfl) ?_)))
  go_ret2
  exact ⟨rfl, rfl⟩

set_option maxHeartbeats 400000 in
theorem bin_51 (a b : Int) (w0 w : World) (hA : St w0 w) :
    Calls Tryd.prog 8 #[.int .i64 51, .int .i32 a, .int .i32 b] w fun e w' => e = .returned (.tuple #[.int .i32 (tr (a != 0 || b != 0)), .bool true]) ∧ St w0 w' := by
  go_enter Tryd.func8, Tryd.ntmps8
  go_wp2_with (go_at_call 17; refine (binary_51 _ _ _ hA.1).mono ?_; rintro e w' ⟨rfl, rfl⟩)
  go_ret2
  exact ⟨rfl, hA.alloc _ _⟩

set_option maxHeartbeats 400000 in
theorem unary_20 (a : Int) (w0 w : World) (hA : St w0 w) :
    Calls Tryd.prog 9 #[.int .i64 20, .int .i32 a] w fun e w' => e = .returned (.tuple #[.int .i32 (wrap32 (-a)), .int .i64 0]) ∧ St w0 w' := by
  have hs : tbl42.size = 23 := rfl
  have ht : tbl42[20]'(by decide) = .func (.func 22) #[] #[] := rfl
  go_enter Tryd.func9, Tryd.ntmps9
  go_wp2_with (first | (go_at_call 20; refine (arity_20 _ hA.1).mono ?_; rintro e w' ⟨rfl, rfl⟩) | (go_at_call 22; refine (neg_any _ _).mono ?_; rintro e w' ⟨rfl, rfl⟩) | (guard_target =~ wpList _ _ _ (_ :: { dst := _, op := Op.alloc 42, type := _, pos := _, after := _, guard := _ } :: _) _ _; go_must (refine wpList_table rfl rfl rfl 42 _ _ _ rfl rfl rfl tbl42 zer42 (built42 _) alloc42 rfl rfl info42 rfl (by kernel_rfl) ?_)))
  go_ret2
  exact ⟨rfl, hA.alloc _ _⟩

set_option maxHeartbeats 400000 in
theorem unary_21 (a : Int) (w0 w : World) (hA : St w0 w) :
    Calls Tryd.prog 9 #[.int .i64 21, .int .i32 a] w fun e w' => e = .returned (.tuple #[.int .i32 (tr (a == 0)), .int .i64 0]) ∧ St w0 w' := by
  have hs : tbl42.size = 23 := rfl
  have ht : tbl42[21]'(by decide) = .func (.func 23) #[] #[] := rfl
  go_enter Tryd.func9, Tryd.ntmps9
  go_wp2_with (first | (go_at_call 20; refine (arity_21 _ hA.1).mono ?_; rintro e w' ⟨rfl, rfl⟩) | (go_at_call 23; refine (not_any _ _).mono ?_; rintro e w' ⟨rfl, rfl⟩) | (guard_target =~ wpList _ _ _ (_ :: { dst := _, op := Op.alloc 42, type := _, pos := _, after := _, guard := _ } :: _) _ _; go_must (refine wpList_table rfl rfl rfl 42 _ _ _ rfl rfl rfl tbl42 zer42 (built42 _) alloc42 rfl rfl info42 rfl (by kernel_rfl) ?_)))
  go_ret2
  exact ⟨rfl, hA.alloc _ _⟩

set_option maxHeartbeats 400000 in
theorem unary_22lt (a : Int) (w0 w : World) (hA : St w0 w) (h : a < 0) :
    Calls Tryd.prog 9 #[.int .i64 22, .int .i32 a] w fun e w' => e = .returned (.tuple #[.int .i32 (wrap32 (-a)), .int .i64 0]) ∧ St w0 w' := by
  have hs : tbl42.size = 23 := rfl
  have ht : tbl42[22]'(by decide) = .func (.func 24) #[] #[] := rfl
  go_enter Tryd.func9, Tryd.ntmps9
  go_wp2_with (first | (go_at_call 20; refine (arity_22 _ hA.1).mono ?_; rintro e w' ⟨rfl, rfl⟩) | (go_at_call 24; refine (abs_lt _ _ h).mono ?_; rintro e w' ⟨rfl, rfl⟩) | (guard_target =~ wpList _ _ _ (_ :: { dst := _, op := Op.alloc 42, type := _, pos := _, after := _, guard := _ } :: _) _ _; go_must (refine wpList_table rfl rfl rfl 42 _ _ _ rfl rfl rfl tbl42 zer42 (built42 _) alloc42 rfl rfl info42 rfl (by kernel_rfl) ?_)))
  go_ret2
  exact ⟨rfl, hA.alloc _ _⟩

end Go.Proofs.YtcehnibfmhbeiaaDoor
