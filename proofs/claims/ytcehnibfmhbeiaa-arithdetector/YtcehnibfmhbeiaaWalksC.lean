import Derived.Test.YtcehnibfmhbeiaaWalksA
namespace Go.Proofs.Ytcehnibfmhbeiaa
open Go.RowKit
set_option linter.unusedVariables false

theorem bel_drewN {B n : Nat} {a w : World} (h : Below B a w) : Below B a (w.drewN n) := by
  induction n generalizing w with
  | zero => exact h
  | succ n ih => exact (ih h).drew

set_option maxRecDepth 100000 in
set_option maxHeartbeats 1000000 in
theorem sense_rah_fx (s : ByteArray) (on mem : Bool) (delay hold run left u dl hd : Int) (w : World)
    (hu : ∀ w, Calls Try.prog 8 #[.int .i32 run] w fun e w' => e = .returned (.int .i32 u) ∧ w' = w)
    (ht : ∀ w, Calls Try.prog 9 #[.int .i64 delay] w fun e w' => e = .returned (.int .i32 dl) ∧ w' = w)
    (hh : ∀ w, Calls Try.prog 9 #[.int .i64 hold] w fun e w' => e = .returned (.int .i32 hd) ∧ w' = w) (hact : dl < u) (hl : 0 < left) (hlb : left ≤ 2147483647) :
    Calls Try.prog 4 #[.agg #[.string s, .bool false, .int .i64 delay, .int .i64 hold], .agg #[.int .i32 run, .int .i32 left, .bool on, .bool mem], .bool true] w
      fun e w' => e = .returned (.agg #[.int .i32 u, .int .i32 hd, .bool true, .bool false]) ∧ Below w.heap.size w w' := by
  go_enter Try.func4, Try.ntmps4
  go_wp2_with (go_at_call 8; refine (hu _).mono ?_; rintro e w' ⟨rfl, rfl⟩)
  go_quiet ((go_at_call 9; exact Calls.quiet_of_same (ht _)))
  go_wp2_with (go_at_call 9; refine (hh _).mono ?_; rintro e w' ⟨rfl, rfl⟩)
  refine bodyPost_ret (v := .agg #[.int .i32 u, .int .i32 hd, .bool true, .bool false]) (by simp [results, Try.results4, go_sem] <;> omega) rfl ⟨rfl, ?_⟩
  repeat (first | with_reducible exact Below.refl _ _ | (with_reducible refine Below.setCell ?_ ?_ _; rotate_left; (first | omega | (simp; omega) | simp)) | with_reducible refine bel_drewN ?_ | with_reducible refine Below.drew ?_ | (with_reducible refine Below.alloc ?_ ?_ _; rotate_left; (first | omega | (simp; omega) | simp)))

set_option maxRecDepth 100000 in
set_option maxHeartbeats 1000000 in
theorem sense_rah_tt (s : ByteArray) (on : Bool) (delay hold run left u dl hd : Int) (w : World)
    (hu : ∀ w, Calls Try.prog 8 #[.int .i32 run] w fun e w' => e = .returned (.int .i32 u) ∧ w' = w)
    (ht : ∀ w, Calls Try.prog 9 #[.int .i64 delay] w fun e w' => e = .returned (.int .i32 dl) ∧ w' = w)
    (hh : ∀ w, Calls Try.prog 9 #[.int .i64 hold] w fun e w' => e = .returned (.int .i32 hd) ∧ w' = w) (hact : dl < u) (hl : 0 < left) (hlb : left ≤ 2147483647) :
    Calls Try.prog 4 #[.agg #[.string s, .bool true, .int .i64 delay, .int .i64 hold], .agg #[.int .i32 run, .int .i32 left, .bool on, .bool true], .bool true] w
      fun e w' => e = .returned (.agg #[.int .i32 u, .int .i32 hd, .bool true, .bool true]) ∧ Below w.heap.size w w' := by
  go_enter Try.func4, Try.ntmps4
  go_wp2_with (go_at_call 8; refine (hu _).mono ?_; rintro e w' ⟨rfl, rfl⟩)
  go_quiet ((go_at_call 9; exact Calls.quiet_of_same (ht _)))
  go_wp2_with (go_at_call 9; refine (hh _).mono ?_; rintro e w' ⟨rfl, rfl⟩)
  refine bodyPost_ret (v := .agg #[.int .i32 u, .int .i32 hd, .bool true, .bool true]) (by simp [results, Try.results4, go_sem] <;> omega) rfl ⟨rfl, ?_⟩
  repeat (first | with_reducible exact Below.refl _ _ | (with_reducible refine Below.setCell ?_ ?_ _; rotate_left; (first | omega | (simp; omega) | simp)) | with_reducible refine bel_drewN ?_ | with_reducible refine Below.drew ?_ | (with_reducible refine Below.alloc ?_ ?_ _; rotate_left; (first | omega | (simp; omega) | simp)))

set_option maxRecDepth 100000 in
set_option maxHeartbeats 1000000 in
theorem sense_rah_tf (s : ByteArray) (on : Bool) (delay hold run left u dl hd : Int) (w : World)
    (hu : ∀ w, Calls Try.prog 8 #[.int .i32 run] w fun e w' => e = .returned (.int .i32 u) ∧ w' = w)
    (ht : ∀ w, Calls Try.prog 9 #[.int .i64 delay] w fun e w' => e = .returned (.int .i32 dl) ∧ w' = w)
    (hh : ∀ w, Calls Try.prog 9 #[.int .i64 hold] w fun e w' => e = .returned (.int .i32 hd) ∧ w' = w) (hact : dl < u) (hl : 0 < left) (hlb : left ≤ 2147483647) :
    Calls Try.prog 4 #[.agg #[.string s, .bool true, .int .i64 delay, .int .i64 hold], .agg #[.int .i32 run, .int .i32 left, .bool on, .bool false], .bool true] w
      fun e w' => e = .returned (.agg #[.int .i32 u, .int .i32 hd, .bool true, .bool true]) ∧ Below w.heap.size w w' := by
  go_enter Try.func4, Try.ntmps4
  go_wp2_with (go_at_call 8; refine (hu _).mono ?_; rintro e w' ⟨rfl, rfl⟩)
  go_quiet ((go_at_call 9; exact Calls.quiet_of_same (ht _)))
  go_wp2_with (go_at_call 9; refine (hh _).mono ?_; rintro e w' ⟨rfl, rfl⟩)
  refine bodyPost_ret (v := .agg #[.int .i32 u, .int .i32 hd, .bool true, .bool true]) (by simp [results, Try.results4, go_sem] <;> omega) rfl ⟨rfl, ?_⟩
  repeat (first | with_reducible exact Below.refl _ _ | (with_reducible refine Below.setCell ?_ ?_ _; rotate_left; (first | omega | (simp; omega) | simp)) | with_reducible refine bel_drewN ?_ | with_reducible refine Below.drew ?_ | (with_reducible refine Below.alloc ?_ ?_ _; rotate_left; (first | omega | (simp; omega) | simp)))

set_option maxRecDepth 100000 in
set_option maxHeartbeats 1000000 in
theorem sense_raz_fx (s : ByteArray) (on mem : Bool) (delay hold run left u dl hd : Int) (w : World)
    (hu : ∀ w, Calls Try.prog 8 #[.int .i32 run] w fun e w' => e = .returned (.int .i32 u) ∧ w' = w)
    (ht : ∀ w, Calls Try.prog 9 #[.int .i64 delay] w fun e w' => e = .returned (.int .i32 dl) ∧ w' = w)
    (hh : ∀ w, Calls Try.prog 9 #[.int .i64 hold] w fun e w' => e = .returned (.int .i32 hd) ∧ w' = w) (hact : dl < u) (hl : ¬ 0 < left) (hlb : left ≤ 2147483647) :
    Calls Try.prog 4 #[.agg #[.string s, .bool false, .int .i64 delay, .int .i64 hold], .agg #[.int .i32 run, .int .i32 left, .bool on, .bool mem], .bool true] w
      fun e w' => e = .returned (.agg #[.int .i32 u, .int .i32 hd, .bool true, .bool false]) ∧ Below w.heap.size w w' := by
  go_enter Try.func4, Try.ntmps4
  go_wp2_with (go_at_call 8; refine (hu _).mono ?_; rintro e w' ⟨rfl, rfl⟩)
  go_quiet ((go_at_call 9; exact Calls.quiet_of_same (ht _)))
  go_wp2_with (go_at_call 9; refine (hh _).mono ?_; rintro e w' ⟨rfl, rfl⟩)
  refine bodyPost_ret (v := .agg #[.int .i32 u, .int .i32 hd, .bool true, .bool false]) (by simp [results, Try.results4, go_sem] <;> omega) rfl ⟨rfl, ?_⟩
  repeat (first | with_reducible exact Below.refl _ _ | (with_reducible refine Below.setCell ?_ ?_ _; rotate_left; (first | omega | (simp; omega) | simp)) | with_reducible refine bel_drewN ?_ | with_reducible refine Below.drew ?_ | (with_reducible refine Below.alloc ?_ ?_ _; rotate_left; (first | omega | (simp; omega) | simp)))

set_option maxRecDepth 100000 in
set_option maxHeartbeats 1000000 in
theorem sense_raz_tt (s : ByteArray) (on : Bool) (delay hold run left u dl hd : Int) (w : World)
    (hu : ∀ w, Calls Try.prog 8 #[.int .i32 run] w fun e w' => e = .returned (.int .i32 u) ∧ w' = w)
    (ht : ∀ w, Calls Try.prog 9 #[.int .i64 delay] w fun e w' => e = .returned (.int .i32 dl) ∧ w' = w)
    (hh : ∀ w, Calls Try.prog 9 #[.int .i64 hold] w fun e w' => e = .returned (.int .i32 hd) ∧ w' = w) (hact : dl < u) (hl : ¬ 0 < left) (hlb : left ≤ 2147483647) :
    Calls Try.prog 4 #[.agg #[.string s, .bool true, .int .i64 delay, .int .i64 hold], .agg #[.int .i32 run, .int .i32 left, .bool on, .bool true], .bool true] w
      fun e w' => e = .returned (.agg #[.int .i32 u, .int .i32 hd, .bool true, .bool true]) ∧ Below w.heap.size w w' := by
  go_enter Try.func4, Try.ntmps4
  go_wp2_with (go_at_call 8; refine (hu _).mono ?_; rintro e w' ⟨rfl, rfl⟩)
  go_quiet ((go_at_call 9; exact Calls.quiet_of_same (ht _)))
  go_wp2_with (go_at_call 9; refine (hh _).mono ?_; rintro e w' ⟨rfl, rfl⟩)
  refine bodyPost_ret (v := .agg #[.int .i32 u, .int .i32 hd, .bool true, .bool true]) (by simp [results, Try.results4, go_sem] <;> omega) rfl ⟨rfl, ?_⟩
  repeat (first | with_reducible exact Below.refl _ _ | (with_reducible refine Below.setCell ?_ ?_ _; rotate_left; (first | omega | (simp; omega) | simp)) | with_reducible refine bel_drewN ?_ | with_reducible refine Below.drew ?_ | (with_reducible refine Below.alloc ?_ ?_ _; rotate_left; (first | omega | (simp; omega) | simp)))

set_option maxRecDepth 100000 in
set_option maxHeartbeats 1000000 in
theorem sense_raz_tf (s : ByteArray) (on : Bool) (delay hold run left u dl hd : Int) (w : World)
    (hu : ∀ w, Calls Try.prog 8 #[.int .i32 run] w fun e w' => e = .returned (.int .i32 u) ∧ w' = w)
    (ht : ∀ w, Calls Try.prog 9 #[.int .i64 delay] w fun e w' => e = .returned (.int .i32 dl) ∧ w' = w)
    (hh : ∀ w, Calls Try.prog 9 #[.int .i64 hold] w fun e w' => e = .returned (.int .i32 hd) ∧ w' = w) (hact : dl < u) (hl : ¬ 0 < left) (hlb : left ≤ 2147483647) :
    Calls Try.prog 4 #[.agg #[.string s, .bool true, .int .i64 delay, .int .i64 hold], .agg #[.int .i32 run, .int .i32 left, .bool on, .bool false], .bool true] w
      fun e w' => e = .returned (.agg #[.int .i32 u, .int .i32 hd, .bool true, .bool true]) ∧ Below w.heap.size w w' := by
  go_enter Try.func4, Try.ntmps4
  go_wp2_with (go_at_call 8; refine (hu _).mono ?_; rintro e w' ⟨rfl, rfl⟩)
  go_quiet ((go_at_call 9; exact Calls.quiet_of_same (ht _)))
  go_wp2_with (go_at_call 9; refine (hh _).mono ?_; rintro e w' ⟨rfl, rfl⟩)
  refine bodyPost_ret (v := .agg #[.int .i32 u, .int .i32 hd, .bool true, .bool true]) (by simp [results, Try.results4, go_sem] <;> omega) rfl ⟨rfl, ?_⟩
  repeat (first | with_reducible exact Below.refl _ _ | (with_reducible refine Below.setCell ?_ ?_ _; rotate_left; (first | omega | (simp; omega) | simp)) | with_reducible refine bel_drewN ?_ | with_reducible refine Below.drew ?_ | (with_reducible refine Below.alloc ?_ ?_ _; rotate_left; (first | omega | (simp; omega) | simp)))

set_option maxRecDepth 100000 in
set_option maxHeartbeats 1000000 in
theorem sense_rih_fx (s : ByteArray) (on mem : Bool) (delay hold run left u dl hd : Int) (w : World)
    (hu : ∀ w, Calls Try.prog 8 #[.int .i32 run] w fun e w' => e = .returned (.int .i32 u) ∧ w' = w)
    (ht : ∀ w, Calls Try.prog 9 #[.int .i64 delay] w fun e w' => e = .returned (.int .i32 dl) ∧ w' = w)
    (hh : ∀ w, Calls Try.prog 9 #[.int .i64 hold] w fun e w' => e = .returned (.int .i32 hd) ∧ w' = w) (hact : ¬ dl < u) (hl : 0 < left) (hlb : left ≤ 2147483647) :
    Calls Try.prog 4 #[.agg #[.string s, .bool false, .int .i64 delay, .int .i64 hold], .agg #[.int .i32 run, .int .i32 left, .bool on, .bool mem], .bool true] w
      fun e w' => e = .returned (.agg #[.int .i32 u, .int .i32 (left - 1), .bool true, .bool false]) ∧ Below w.heap.size w w' := by
  go_enter Try.func4, Try.ntmps4
  go_wp2_with (go_at_call 8; refine (hu _).mono ?_; rintro e w' ⟨rfl, rfl⟩)
  go_quiet ((go_at_call 9; exact Calls.quiet_of_same (ht _)))
  go_wp2_with (go_at_call 9; refine (hh _).mono ?_; rintro e w' ⟨rfl, rfl⟩)
  refine bodyPost_ret (v := .agg #[.int .i32 u, .int .i32 (left - 1), .bool true, .bool false]) (by simp [results, Try.results4, go_sem] <;> omega) rfl ⟨rfl, ?_⟩
  repeat (first | with_reducible exact Below.refl _ _ | (with_reducible refine Below.setCell ?_ ?_ _; rotate_left; (first | omega | (simp; omega) | simp)) | with_reducible refine bel_drewN ?_ | with_reducible refine Below.drew ?_ | (with_reducible refine Below.alloc ?_ ?_ _; rotate_left; (first | omega | (simp; omega) | simp)))

set_option maxRecDepth 100000 in
set_option maxHeartbeats 1000000 in
theorem sense_rih_tt (s : ByteArray) (on : Bool) (delay hold run left u dl hd : Int) (w : World)
    (hu : ∀ w, Calls Try.prog 8 #[.int .i32 run] w fun e w' => e = .returned (.int .i32 u) ∧ w' = w)
    (ht : ∀ w, Calls Try.prog 9 #[.int .i64 delay] w fun e w' => e = .returned (.int .i32 dl) ∧ w' = w)
    (hh : ∀ w, Calls Try.prog 9 #[.int .i64 hold] w fun e w' => e = .returned (.int .i32 hd) ∧ w' = w) (hact : ¬ dl < u) (hl : 0 < left) (hlb : left ≤ 2147483647) :
    Calls Try.prog 4 #[.agg #[.string s, .bool true, .int .i64 delay, .int .i64 hold], .agg #[.int .i32 run, .int .i32 left, .bool on, .bool true], .bool true] w
      fun e w' => e = .returned (.agg #[.int .i32 u, .int .i32 (left - 1), .bool true, .bool true]) ∧ Below w.heap.size w w' := by
  go_enter Try.func4, Try.ntmps4
  go_wp2_with (go_at_call 8; refine (hu _).mono ?_; rintro e w' ⟨rfl, rfl⟩)
  go_quiet ((go_at_call 9; exact Calls.quiet_of_same (ht _)))
  go_wp2_with (go_at_call 9; refine (hh _).mono ?_; rintro e w' ⟨rfl, rfl⟩)
  refine bodyPost_ret (v := .agg #[.int .i32 u, .int .i32 (left - 1), .bool true, .bool true]) (by simp [results, Try.results4, go_sem] <;> omega) rfl ⟨rfl, ?_⟩
  repeat (first | with_reducible exact Below.refl _ _ | (with_reducible refine Below.setCell ?_ ?_ _; rotate_left; (first | omega | (simp; omega) | simp)) | with_reducible refine bel_drewN ?_ | with_reducible refine Below.drew ?_ | (with_reducible refine Below.alloc ?_ ?_ _; rotate_left; (first | omega | (simp; omega) | simp)))

set_option maxRecDepth 100000 in
set_option maxHeartbeats 1000000 in
theorem sense_rih_tf (s : ByteArray) (on : Bool) (delay hold run left u dl hd : Int) (w : World)
    (hu : ∀ w, Calls Try.prog 8 #[.int .i32 run] w fun e w' => e = .returned (.int .i32 u) ∧ w' = w)
    (ht : ∀ w, Calls Try.prog 9 #[.int .i64 delay] w fun e w' => e = .returned (.int .i32 dl) ∧ w' = w)
    (hh : ∀ w, Calls Try.prog 9 #[.int .i64 hold] w fun e w' => e = .returned (.int .i32 hd) ∧ w' = w) (hact : ¬ dl < u) (hl : 0 < left) (hlb : left ≤ 2147483647) :
    Calls Try.prog 4 #[.agg #[.string s, .bool true, .int .i64 delay, .int .i64 hold], .agg #[.int .i32 run, .int .i32 left, .bool on, .bool false], .bool true] w
      fun e w' => e = .returned (.agg #[.int .i32 u, .int .i32 (left - 1), .bool true, .bool false]) ∧ Below w.heap.size w w' := by
  go_enter Try.func4, Try.ntmps4
  go_wp2_with (go_at_call 8; refine (hu _).mono ?_; rintro e w' ⟨rfl, rfl⟩)
  go_quiet ((go_at_call 9; exact Calls.quiet_of_same (ht _)))
  go_wp2_with (go_at_call 9; refine (hh _).mono ?_; rintro e w' ⟨rfl, rfl⟩)
  refine bodyPost_ret (v := .agg #[.int .i32 u, .int .i32 (left - 1), .bool true, .bool false]) (by simp [results, Try.results4, go_sem] <;> omega) rfl ⟨rfl, ?_⟩
  repeat (first | with_reducible exact Below.refl _ _ | (with_reducible refine Below.setCell ?_ ?_ _; rotate_left; (first | omega | (simp; omega) | simp)) | with_reducible refine bel_drewN ?_ | with_reducible refine Below.drew ?_ | (with_reducible refine Below.alloc ?_ ?_ _; rotate_left; (first | omega | (simp; omega) | simp)))

set_option maxRecDepth 100000 in
set_option maxHeartbeats 1000000 in
theorem sense_riz_fx (s : ByteArray) (on mem : Bool) (delay hold run left u dl hd : Int) (w : World)
    (hu : ∀ w, Calls Try.prog 8 #[.int .i32 run] w fun e w' => e = .returned (.int .i32 u) ∧ w' = w)
    (ht : ∀ w, Calls Try.prog 9 #[.int .i64 delay] w fun e w' => e = .returned (.int .i32 dl) ∧ w' = w)
    (hh : ∀ w, Calls Try.prog 9 #[.int .i64 hold] w fun e w' => e = .returned (.int .i32 hd) ∧ w' = w) (hact : ¬ dl < u) (hl : ¬ 0 < left) (hlb : left ≤ 2147483647) :
    Calls Try.prog 4 #[.agg #[.string s, .bool false, .int .i64 delay, .int .i64 hold], .agg #[.int .i32 run, .int .i32 left, .bool on, .bool mem], .bool true] w
      fun e w' => e = .returned (.agg #[.int .i32 u, .int .i32 0, .bool false, .bool false]) ∧ Below w.heap.size w w' := by
  go_enter Try.func4, Try.ntmps4
  go_wp2_with (go_at_call 8; refine (hu _).mono ?_; rintro e w' ⟨rfl, rfl⟩)
  go_quiet ((go_at_call 9; exact Calls.quiet_of_same (ht _)))
  go_wp2_with (go_at_call 9; refine (hh _).mono ?_; rintro e w' ⟨rfl, rfl⟩)
  refine bodyPost_ret (v := .agg #[.int .i32 u, .int .i32 0, .bool false, .bool false]) (by simp [results, Try.results4, go_sem] <;> omega) rfl ⟨rfl, ?_⟩
  repeat (first | with_reducible exact Below.refl _ _ | (with_reducible refine Below.setCell ?_ ?_ _; rotate_left; (first | omega | (simp; omega) | simp)) | with_reducible refine bel_drewN ?_ | with_reducible refine Below.drew ?_ | (with_reducible refine Below.alloc ?_ ?_ _; rotate_left; (first | omega | (simp; omega) | simp)))

set_option maxRecDepth 100000 in
set_option maxHeartbeats 1000000 in
theorem sense_riz_tt (s : ByteArray) (on : Bool) (delay hold run left u dl hd : Int) (w : World)
    (hu : ∀ w, Calls Try.prog 8 #[.int .i32 run] w fun e w' => e = .returned (.int .i32 u) ∧ w' = w)
    (ht : ∀ w, Calls Try.prog 9 #[.int .i64 delay] w fun e w' => e = .returned (.int .i32 dl) ∧ w' = w)
    (hh : ∀ w, Calls Try.prog 9 #[.int .i64 hold] w fun e w' => e = .returned (.int .i32 hd) ∧ w' = w) (hact : ¬ dl < u) (hl : ¬ 0 < left) (hlb : left ≤ 2147483647) :
    Calls Try.prog 4 #[.agg #[.string s, .bool true, .int .i64 delay, .int .i64 hold], .agg #[.int .i32 run, .int .i32 left, .bool on, .bool true], .bool true] w
      fun e w' => e = .returned (.agg #[.int .i32 u, .int .i32 0, .bool false, .bool true]) ∧ Below w.heap.size w w' := by
  go_enter Try.func4, Try.ntmps4
  go_wp2_with (go_at_call 8; refine (hu _).mono ?_; rintro e w' ⟨rfl, rfl⟩)
  go_quiet ((go_at_call 9; exact Calls.quiet_of_same (ht _)))
  go_wp2_with (go_at_call 9; refine (hh _).mono ?_; rintro e w' ⟨rfl, rfl⟩)
  refine bodyPost_ret (v := .agg #[.int .i32 u, .int .i32 0, .bool false, .bool true]) (by simp [results, Try.results4, go_sem] <;> omega) rfl ⟨rfl, ?_⟩
  repeat (first | with_reducible exact Below.refl _ _ | (with_reducible refine Below.setCell ?_ ?_ _; rotate_left; (first | omega | (simp; omega) | simp)) | with_reducible refine bel_drewN ?_ | with_reducible refine Below.drew ?_ | (with_reducible refine Below.alloc ?_ ?_ _; rotate_left; (first | omega | (simp; omega) | simp)))

set_option maxRecDepth 100000 in
set_option maxHeartbeats 1000000 in
theorem sense_riz_tf (s : ByteArray) (on : Bool) (delay hold run left u dl hd : Int) (w : World)
    (hu : ∀ w, Calls Try.prog 8 #[.int .i32 run] w fun e w' => e = .returned (.int .i32 u) ∧ w' = w)
    (ht : ∀ w, Calls Try.prog 9 #[.int .i64 delay] w fun e w' => e = .returned (.int .i32 dl) ∧ w' = w)
    (hh : ∀ w, Calls Try.prog 9 #[.int .i64 hold] w fun e w' => e = .returned (.int .i32 hd) ∧ w' = w) (hact : ¬ dl < u) (hl : ¬ 0 < left) (hlb : left ≤ 2147483647) :
    Calls Try.prog 4 #[.agg #[.string s, .bool true, .int .i64 delay, .int .i64 hold], .agg #[.int .i32 run, .int .i32 left, .bool on, .bool false], .bool true] w
      fun e w' => e = .returned (.agg #[.int .i32 u, .int .i32 0, .bool false, .bool false]) ∧ Below w.heap.size w w' := by
  go_enter Try.func4, Try.ntmps4
  go_wp2_with (go_at_call 8; refine (hu _).mono ?_; rintro e w' ⟨rfl, rfl⟩)
  go_quiet ((go_at_call 9; exact Calls.quiet_of_same (ht _)))
  go_wp2_with (go_at_call 9; refine (hh _).mono ?_; rintro e w' ⟨rfl, rfl⟩)
  refine bodyPost_ret (v := .agg #[.int .i32 u, .int .i32 0, .bool false, .bool false]) (by simp [results, Try.results4, go_sem] <;> omega) rfl ⟨rfl, ?_⟩
  repeat (first | with_reducible exact Below.refl _ _ | (with_reducible refine Below.setCell ?_ ?_ _; rotate_left; (first | omega | (simp; omega) | simp)) | with_reducible refine bel_drewN ?_ | with_reducible refine Below.drew ?_ | (with_reducible refine Below.alloc ?_ ?_ _; rotate_left; (first | omega | (simp; omega) | simp)))

set_option maxRecDepth 100000 in
set_option maxHeartbeats 1000000 in
theorem sense_nih_fx (s : ByteArray) (on mem : Bool) (delay hold run left u dl hd : Int) (w : World)
    (hu : ∀ w, Calls Try.prog 8 #[.int .i32 run] w fun e w' => e = .returned (.int .i32 u) ∧ w' = w)
    (ht : ∀ w, Calls Try.prog 9 #[.int .i64 delay] w fun e w' => e = .returned (.int .i32 dl) ∧ w' = w)
    (hh : ∀ w, Calls Try.prog 9 #[.int .i64 hold] w fun e w' => e = .returned (.int .i32 hd) ∧ w' = w) (hact : 0 ≤ dl) (hl : 0 < left) (hlb : left ≤ 2147483647) :
    Calls Try.prog 4 #[.agg #[.string s, .bool false, .int .i64 delay, .int .i64 hold], .agg #[.int .i32 run, .int .i32 left, .bool on, .bool mem], .bool false] w
      fun e w' => e = .returned (.agg #[.int .i32 0, .int .i32 (left - 1), .bool true, .bool false]) ∧ Below w.heap.size w w' := by
  go_enter Try.func4, Try.ntmps4
  go_wp2_with (go_at_call 8; refine (hu _).mono ?_; rintro e w' ⟨rfl, rfl⟩)
  go_quiet ((go_at_call 9; exact Calls.quiet_of_same (ht _)))
  go_wp2_with (go_at_call 9; refine (hh _).mono ?_; rintro e w' ⟨rfl, rfl⟩)
  refine bodyPost_ret (v := .agg #[.int .i32 0, .int .i32 (left - 1), .bool true, .bool false]) (by simp [results, Try.results4, go_sem] <;> omega) rfl ⟨rfl, ?_⟩
  repeat (first | with_reducible exact Below.refl _ _ | (with_reducible refine Below.setCell ?_ ?_ _; rotate_left; (first | omega | (simp; omega) | simp)) | with_reducible refine bel_drewN ?_ | with_reducible refine Below.drew ?_ | (with_reducible refine Below.alloc ?_ ?_ _; rotate_left; (first | omega | (simp; omega) | simp)))

set_option maxRecDepth 100000 in
set_option maxHeartbeats 1000000 in
theorem sense_nih_tt (s : ByteArray) (on : Bool) (delay hold run left u dl hd : Int) (w : World)
    (hu : ∀ w, Calls Try.prog 8 #[.int .i32 run] w fun e w' => e = .returned (.int .i32 u) ∧ w' = w)
    (ht : ∀ w, Calls Try.prog 9 #[.int .i64 delay] w fun e w' => e = .returned (.int .i32 dl) ∧ w' = w)
    (hh : ∀ w, Calls Try.prog 9 #[.int .i64 hold] w fun e w' => e = .returned (.int .i32 hd) ∧ w' = w) (hact : 0 ≤ dl) (hl : 0 < left) (hlb : left ≤ 2147483647) :
    Calls Try.prog 4 #[.agg #[.string s, .bool true, .int .i64 delay, .int .i64 hold], .agg #[.int .i32 run, .int .i32 left, .bool on, .bool true], .bool false] w
      fun e w' => e = .returned (.agg #[.int .i32 0, .int .i32 (left - 1), .bool true, .bool true]) ∧ Below w.heap.size w w' := by
  go_enter Try.func4, Try.ntmps4
  go_wp2_with (go_at_call 8; refine (hu _).mono ?_; rintro e w' ⟨rfl, rfl⟩)
  go_quiet ((go_at_call 9; exact Calls.quiet_of_same (ht _)))
  go_wp2_with (go_at_call 9; refine (hh _).mono ?_; rintro e w' ⟨rfl, rfl⟩)
  refine bodyPost_ret (v := .agg #[.int .i32 0, .int .i32 (left - 1), .bool true, .bool true]) (by simp [results, Try.results4, go_sem] <;> omega) rfl ⟨rfl, ?_⟩
  repeat (first | with_reducible exact Below.refl _ _ | (with_reducible refine Below.setCell ?_ ?_ _; rotate_left; (first | omega | (simp; omega) | simp)) | with_reducible refine bel_drewN ?_ | with_reducible refine Below.drew ?_ | (with_reducible refine Below.alloc ?_ ?_ _; rotate_left; (first | omega | (simp; omega) | simp)))

set_option maxRecDepth 100000 in
set_option maxHeartbeats 1000000 in
theorem sense_nih_tf (s : ByteArray) (on : Bool) (delay hold run left u dl hd : Int) (w : World)
    (hu : ∀ w, Calls Try.prog 8 #[.int .i32 run] w fun e w' => e = .returned (.int .i32 u) ∧ w' = w)
    (ht : ∀ w, Calls Try.prog 9 #[.int .i64 delay] w fun e w' => e = .returned (.int .i32 dl) ∧ w' = w)
    (hh : ∀ w, Calls Try.prog 9 #[.int .i64 hold] w fun e w' => e = .returned (.int .i32 hd) ∧ w' = w) (hact : 0 ≤ dl) (hl : 0 < left) (hlb : left ≤ 2147483647) :
    Calls Try.prog 4 #[.agg #[.string s, .bool true, .int .i64 delay, .int .i64 hold], .agg #[.int .i32 run, .int .i32 left, .bool on, .bool false], .bool false] w
      fun e w' => e = .returned (.agg #[.int .i32 0, .int .i32 (left - 1), .bool true, .bool false]) ∧ Below w.heap.size w w' := by
  go_enter Try.func4, Try.ntmps4
  go_wp2_with (go_at_call 8; refine (hu _).mono ?_; rintro e w' ⟨rfl, rfl⟩)
  go_quiet ((go_at_call 9; exact Calls.quiet_of_same (ht _)))
  go_wp2_with (go_at_call 9; refine (hh _).mono ?_; rintro e w' ⟨rfl, rfl⟩)
  refine bodyPost_ret (v := .agg #[.int .i32 0, .int .i32 (left - 1), .bool true, .bool false]) (by simp [results, Try.results4, go_sem] <;> omega) rfl ⟨rfl, ?_⟩
  repeat (first | with_reducible exact Below.refl _ _ | (with_reducible refine Below.setCell ?_ ?_ _; rotate_left; (first | omega | (simp; omega) | simp)) | with_reducible refine bel_drewN ?_ | with_reducible refine Below.drew ?_ | (with_reducible refine Below.alloc ?_ ?_ _; rotate_left; (first | omega | (simp; omega) | simp)))

set_option maxRecDepth 100000 in
set_option maxHeartbeats 1000000 in
theorem sense_niz_fx (s : ByteArray) (on mem : Bool) (delay hold run left u dl hd : Int) (w : World)
    (hu : ∀ w, Calls Try.prog 8 #[.int .i32 run] w fun e w' => e = .returned (.int .i32 u) ∧ w' = w)
    (ht : ∀ w, Calls Try.prog 9 #[.int .i64 delay] w fun e w' => e = .returned (.int .i32 dl) ∧ w' = w)
    (hh : ∀ w, Calls Try.prog 9 #[.int .i64 hold] w fun e w' => e = .returned (.int .i32 hd) ∧ w' = w) (hact : 0 ≤ dl) (hl : ¬ 0 < left) (hlb : left ≤ 2147483647) :
    Calls Try.prog 4 #[.agg #[.string s, .bool false, .int .i64 delay, .int .i64 hold], .agg #[.int .i32 run, .int .i32 left, .bool on, .bool mem], .bool false] w
      fun e w' => e = .returned (.agg #[.int .i32 0, .int .i32 0, .bool false, .bool false]) ∧ Below w.heap.size w w' := by
  go_enter Try.func4, Try.ntmps4
  go_wp2_with (go_at_call 8; refine (hu _).mono ?_; rintro e w' ⟨rfl, rfl⟩)
  go_quiet ((go_at_call 9; exact Calls.quiet_of_same (ht _)))
  go_wp2_with (go_at_call 9; refine (hh _).mono ?_; rintro e w' ⟨rfl, rfl⟩)
  refine bodyPost_ret (v := .agg #[.int .i32 0, .int .i32 0, .bool false, .bool false]) (by simp [results, Try.results4, go_sem] <;> omega) rfl ⟨rfl, ?_⟩
  repeat (first | with_reducible exact Below.refl _ _ | (with_reducible refine Below.setCell ?_ ?_ _; rotate_left; (first | omega | (simp; omega) | simp)) | with_reducible refine bel_drewN ?_ | with_reducible refine Below.drew ?_ | (with_reducible refine Below.alloc ?_ ?_ _; rotate_left; (first | omega | (simp; omega) | simp)))

set_option maxRecDepth 100000 in
set_option maxHeartbeats 1000000 in
theorem sense_niz_tt (s : ByteArray) (on : Bool) (delay hold run left u dl hd : Int) (w : World)
    (hu : ∀ w, Calls Try.prog 8 #[.int .i32 run] w fun e w' => e = .returned (.int .i32 u) ∧ w' = w)
    (ht : ∀ w, Calls Try.prog 9 #[.int .i64 delay] w fun e w' => e = .returned (.int .i32 dl) ∧ w' = w)
    (hh : ∀ w, Calls Try.prog 9 #[.int .i64 hold] w fun e w' => e = .returned (.int .i32 hd) ∧ w' = w) (hact : 0 ≤ dl) (hl : ¬ 0 < left) (hlb : left ≤ 2147483647) :
    Calls Try.prog 4 #[.agg #[.string s, .bool true, .int .i64 delay, .int .i64 hold], .agg #[.int .i32 run, .int .i32 left, .bool on, .bool true], .bool false] w
      fun e w' => e = .returned (.agg #[.int .i32 0, .int .i32 0, .bool false, .bool true]) ∧ Below w.heap.size w w' := by
  go_enter Try.func4, Try.ntmps4
  go_wp2_with (go_at_call 8; refine (hu _).mono ?_; rintro e w' ⟨rfl, rfl⟩)
  go_quiet ((go_at_call 9; exact Calls.quiet_of_same (ht _)))
  go_wp2_with (go_at_call 9; refine (hh _).mono ?_; rintro e w' ⟨rfl, rfl⟩)
  refine bodyPost_ret (v := .agg #[.int .i32 0, .int .i32 0, .bool false, .bool true]) (by simp [results, Try.results4, go_sem] <;> omega) rfl ⟨rfl, ?_⟩
  repeat (first | with_reducible exact Below.refl _ _ | (with_reducible refine Below.setCell ?_ ?_ _; rotate_left; (first | omega | (simp; omega) | simp)) | with_reducible refine bel_drewN ?_ | with_reducible refine Below.drew ?_ | (with_reducible refine Below.alloc ?_ ?_ _; rotate_left; (first | omega | (simp; omega) | simp)))

set_option maxRecDepth 100000 in
set_option maxHeartbeats 1000000 in
theorem sense_niz_tf (s : ByteArray) (on : Bool) (delay hold run left u dl hd : Int) (w : World)
    (hu : ∀ w, Calls Try.prog 8 #[.int .i32 run] w fun e w' => e = .returned (.int .i32 u) ∧ w' = w)
    (ht : ∀ w, Calls Try.prog 9 #[.int .i64 delay] w fun e w' => e = .returned (.int .i32 dl) ∧ w' = w)
    (hh : ∀ w, Calls Try.prog 9 #[.int .i64 hold] w fun e w' => e = .returned (.int .i32 hd) ∧ w' = w) (hact : 0 ≤ dl) (hl : ¬ 0 < left) (hlb : left ≤ 2147483647) :
    Calls Try.prog 4 #[.agg #[.string s, .bool true, .int .i64 delay, .int .i64 hold], .agg #[.int .i32 run, .int .i32 left, .bool on, .bool false], .bool false] w
      fun e w' => e = .returned (.agg #[.int .i32 0, .int .i32 0, .bool false, .bool false]) ∧ Below w.heap.size w w' := by
  go_enter Try.func4, Try.ntmps4
  go_wp2_with (go_at_call 8; refine (hu _).mono ?_; rintro e w' ⟨rfl, rfl⟩)
  go_quiet ((go_at_call 9; exact Calls.quiet_of_same (ht _)))
  go_wp2_with (go_at_call 9; refine (hh _).mono ?_; rintro e w' ⟨rfl, rfl⟩)
  refine bodyPost_ret (v := .agg #[.int .i32 0, .int .i32 0, .bool false, .bool false]) (by simp [results, Try.results4, go_sem] <;> omega) rfl ⟨rfl, ?_⟩
  repeat (first | with_reducible exact Below.refl _ _ | (with_reducible refine Below.setCell ?_ ?_ _; rotate_left; (first | omega | (simp; omega) | simp)) | with_reducible refine bel_drewN ?_ | with_reducible refine Below.drew ?_ | (with_reducible refine Below.alloc ?_ ?_ _; rotate_left; (first | omega | (simp; omega) | simp)))

theorem sense_any (s : ByteArray) (latch on mem raw : Bool) (delay hold run left : Int) (w : World) (h1 : -2147483648 ≤ run) (h2 : run ≤ 2147483647) (hlb : left ≤ 2147483647) :
    Calls Try.prog 4 #[.agg #[.string s, .bool latch, .int .i64 delay, .int .i64 hold], .agg #[.int .i32 run, .int .i32 left, .bool on, .bool mem], .bool raw] w
      fun e w' => e = .returned (.agg #[.int .i32 (sRun raw run), .int .i32 (sLeft raw run delay hold left), .bool (sOn raw run delay left), .bool (sMem raw latch mem run delay)]) ∧ Below w.heap.size w w' := by
  have hu := fun w => up_any run w h1 h2
  have ht := fun w => ticks_any delay w
  have hh := fun w => ticks_any hold w
  have hdl := (tickF_bd delay).1
  cases raw
  · have hact := hdl
    have hneg : ¬ tickF delay < 0 := by omega
    by_cases hl : 0 < left
    · cases latch
      · exact (sense_nih_fx s on mem delay hold run left _ _ _ w hu ht hh hact hl hlb).mono fun _ _ h => ⟨h.1.trans (ret_det (by unfold sRun; rfl) (by unfold sLeft sAct sRun; simp [*]) (by unfold sOn sAct sRun; simp [*]) (by unfold sMem sAct sRun; simp [*])), h.2⟩
      · cases mem
        · exact (sense_nih_tf s on delay hold run left _ _ _ w hu ht hh hact hl hlb).mono fun _ _ h => ⟨h.1.trans (ret_det (by unfold sRun; rfl) (by unfold sLeft sAct sRun; simp [*]) (by unfold sOn sAct sRun; simp [*]) (by unfold sMem sAct sRun; simp [*])), h.2⟩
        · exact (sense_nih_tt s on delay hold run left _ _ _ w hu ht hh hact hl hlb).mono fun _ _ h => ⟨h.1.trans (ret_det (by unfold sRun; rfl) (by unfold sLeft sAct sRun; simp [*]) (by unfold sOn sAct sRun; simp [*]) (by unfold sMem sAct sRun; simp [*])), h.2⟩
    · cases latch
      · exact (sense_niz_fx s on mem delay hold run left _ _ _ w hu ht hh hact hl hlb).mono fun _ _ h => ⟨h.1.trans (ret_det (by unfold sRun; rfl) (by unfold sLeft sAct sRun; simp [*]) (by unfold sOn sAct sRun; simp [*]) (by unfold sMem sAct sRun; simp [*])), h.2⟩
      · cases mem
        · exact (sense_niz_tf s on delay hold run left _ _ _ w hu ht hh hact hl hlb).mono fun _ _ h => ⟨h.1.trans (ret_det (by unfold sRun; rfl) (by unfold sLeft sAct sRun; simp [*]) (by unfold sOn sAct sRun; simp [*]) (by unfold sMem sAct sRun; simp [*])), h.2⟩
        · exact (sense_niz_tt s on delay hold run left _ _ _ w hu ht hh hact hl hlb).mono fun _ _ h => ⟨h.1.trans (ret_det (by unfold sRun; rfl) (by unfold sLeft sAct sRun; simp [*]) (by unfold sOn sAct sRun; simp [*]) (by unfold sMem sAct sRun; simp [*])), h.2⟩
  · by_cases hact : tickF delay < upF run
    · by_cases hl : 0 < left
      · cases latch
        · exact (sense_rah_fx s on mem delay hold run left _ _ _ w hu ht hh hact hl hlb).mono fun _ _ h => ⟨h.1.trans (ret_det (by unfold sRun; rfl) (by unfold sLeft sAct sRun; simp [*]) (by unfold sOn sAct sRun; simp [*]) (by unfold sMem sAct sRun; simp [*])), h.2⟩
        · cases mem
          · exact (sense_rah_tf s on delay hold run left _ _ _ w hu ht hh hact hl hlb).mono fun _ _ h => ⟨h.1.trans (ret_det (by unfold sRun; rfl) (by unfold sLeft sAct sRun; simp [*]) (by unfold sOn sAct sRun; simp [*]) (by unfold sMem sAct sRun; simp [*])), h.2⟩
          · exact (sense_rah_tt s on delay hold run left _ _ _ w hu ht hh hact hl hlb).mono fun _ _ h => ⟨h.1.trans (ret_det (by unfold sRun; rfl) (by unfold sLeft sAct sRun; simp [*]) (by unfold sOn sAct sRun; simp [*]) (by unfold sMem sAct sRun; simp [*])), h.2⟩
      · cases latch
        · exact (sense_raz_fx s on mem delay hold run left _ _ _ w hu ht hh hact hl hlb).mono fun _ _ h => ⟨h.1.trans (ret_det (by unfold sRun; rfl) (by unfold sLeft sAct sRun; simp [*]) (by unfold sOn sAct sRun; simp [*]) (by unfold sMem sAct sRun; simp [*])), h.2⟩
        · cases mem
          · exact (sense_raz_tf s on delay hold run left _ _ _ w hu ht hh hact hl hlb).mono fun _ _ h => ⟨h.1.trans (ret_det (by unfold sRun; rfl) (by unfold sLeft sAct sRun; simp [*]) (by unfold sOn sAct sRun; simp [*]) (by unfold sMem sAct sRun; simp [*])), h.2⟩
          · exact (sense_raz_tt s on delay hold run left _ _ _ w hu ht hh hact hl hlb).mono fun _ _ h => ⟨h.1.trans (ret_det (by unfold sRun; rfl) (by unfold sLeft sAct sRun; simp [*]) (by unfold sOn sAct sRun; simp [*]) (by unfold sMem sAct sRun; simp [*])), h.2⟩
    · by_cases hl : 0 < left
      · cases latch
        · exact (sense_rih_fx s on mem delay hold run left _ _ _ w hu ht hh hact hl hlb).mono fun _ _ h => ⟨h.1.trans (ret_det (by unfold sRun; rfl) (by unfold sLeft sAct sRun; simp [*]) (by unfold sOn sAct sRun; simp [*]) (by unfold sMem sAct sRun; simp [*])), h.2⟩
        · cases mem
          · exact (sense_rih_tf s on delay hold run left _ _ _ w hu ht hh hact hl hlb).mono fun _ _ h => ⟨h.1.trans (ret_det (by unfold sRun; rfl) (by unfold sLeft sAct sRun; simp [*]) (by unfold sOn sAct sRun; simp [*]) (by unfold sMem sAct sRun; simp [*])), h.2⟩
          · exact (sense_rih_tt s on delay hold run left _ _ _ w hu ht hh hact hl hlb).mono fun _ _ h => ⟨h.1.trans (ret_det (by unfold sRun; rfl) (by unfold sLeft sAct sRun; simp [*]) (by unfold sOn sAct sRun; simp [*]) (by unfold sMem sAct sRun; simp [*])), h.2⟩
      · cases latch
        · exact (sense_riz_fx s on mem delay hold run left _ _ _ w hu ht hh hact hl hlb).mono fun _ _ h => ⟨h.1.trans (ret_det (by unfold sRun; rfl) (by unfold sLeft sAct sRun; simp [*]) (by unfold sOn sAct sRun; simp [*]) (by unfold sMem sAct sRun; simp [*])), h.2⟩
        · cases mem
          · exact (sense_riz_tf s on delay hold run left _ _ _ w hu ht hh hact hl hlb).mono fun _ _ h => ⟨h.1.trans (ret_det (by unfold sRun; rfl) (by unfold sLeft sAct sRun; simp [*]) (by unfold sOn sAct sRun; simp [*]) (by unfold sMem sAct sRun; simp [*])), h.2⟩
          · exact (sense_riz_tt s on delay hold run left _ _ _ w hu ht hh hact hl hlb).mono fun _ _ h => ⟨h.1.trans (ret_det (by unfold sRun; rfl) (by unfold sLeft sAct sRun; simp [*]) (by unfold sOn sAct sRun; simp [*]) (by unfold sMem sAct sRun; simp [*])), h.2⟩

end Go.Proofs.Ytcehnibfmhbeiaa
