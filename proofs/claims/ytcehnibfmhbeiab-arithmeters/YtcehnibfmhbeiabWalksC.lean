import Derived.Test.YtcehnibfmhbeiabWalksB
namespace Go.Proofs.Ytcehnibfmhbeiab
open Go.RowKit
set_option linter.unusedVariables false

theorem bel_drewN {B n : Nat} {a w : World} (h : Below B a w) : Below B a (w.drewN n) := by
  induction n generalizing w with
  | zero => exact h
  | succ n ih => exact (ih h).drew

set_option maxRecDepth 100000 in
set_option maxHeartbeats 1000000 in
theorem sense_rah_fx (s : ByteArray) (on mem : Bool) (delay hold run left u dl hd : Int) (w : World)
    (hu : ∀ w, Calls Try.prog 4 #[.int .i32 run] w fun e w' => e = .returned (.int .i32 u) ∧ w' = w)
    (ht : ∀ w, Calls Try.prog 14 #[.int .i64 delay] w fun e w' => e = .returned (.int .i32 dl) ∧ w' = w)
    (hh : ∀ w, Calls Try.prog 14 #[.int .i64 hold] w fun e w' => e = .returned (.int .i32 hd) ∧ w' = w) (hact : dl < u) (hl : 0 < left) (hlb : left ≤ 2147483647) :
    Calls Try.prog 8 #[.agg #[.string s, .bool false, .int .i64 delay, .int .i64 hold], .agg #[.int .i32 run, .int .i32 left, .bool on, .bool mem], .bool true] w
      fun e w' => e = .returned (.agg #[.int .i32 u, .int .i32 hd, .bool true, .bool false]) ∧ Below w.heap.size w w' := by
  go_enter Try.func8, Try.ntmps8
  go_wp2_with (go_at_call 4; refine (hu _).mono ?_; rintro e w' ⟨rfl, rfl⟩)
  go_quiet ((go_at_call 14; exact Calls.quiet_of_same (ht _)))
  go_wp2_with (go_at_call 14; refine (hh _).mono ?_; rintro e w' ⟨rfl, rfl⟩)
  refine bodyPost_ret (v := .agg #[.int .i32 u, .int .i32 hd, .bool true, .bool false]) (by simp [results, Try.results8, go_sem] <;> omega) rfl ⟨rfl, ?_⟩
  repeat (first | with_reducible exact Below.refl _ _ | (with_reducible refine Below.setCell ?_ ?_ _; rotate_left; (first | omega | (simp; omega) | simp)) | with_reducible refine bel_drewN ?_ | with_reducible refine Below.drew ?_ | (with_reducible refine Below.alloc ?_ ?_ _; rotate_left; (first | omega | (simp; omega) | simp)))

set_option maxRecDepth 100000 in
set_option maxHeartbeats 1000000 in
theorem sense_rah_tt (s : ByteArray) (on : Bool) (delay hold run left u dl hd : Int) (w : World)
    (hu : ∀ w, Calls Try.prog 4 #[.int .i32 run] w fun e w' => e = .returned (.int .i32 u) ∧ w' = w)
    (ht : ∀ w, Calls Try.prog 14 #[.int .i64 delay] w fun e w' => e = .returned (.int .i32 dl) ∧ w' = w)
    (hh : ∀ w, Calls Try.prog 14 #[.int .i64 hold] w fun e w' => e = .returned (.int .i32 hd) ∧ w' = w) (hact : dl < u) (hl : 0 < left) (hlb : left ≤ 2147483647) :
    Calls Try.prog 8 #[.agg #[.string s, .bool true, .int .i64 delay, .int .i64 hold], .agg #[.int .i32 run, .int .i32 left, .bool on, .bool true], .bool true] w
      fun e w' => e = .returned (.agg #[.int .i32 u, .int .i32 hd, .bool true, .bool true]) ∧ Below w.heap.size w w' := by
  go_enter Try.func8, Try.ntmps8
  go_wp2_with (go_at_call 4; refine (hu _).mono ?_; rintro e w' ⟨rfl, rfl⟩)
  go_quiet ((go_at_call 14; exact Calls.quiet_of_same (ht _)))
  go_wp2_with (go_at_call 14; refine (hh _).mono ?_; rintro e w' ⟨rfl, rfl⟩)
  refine bodyPost_ret (v := .agg #[.int .i32 u, .int .i32 hd, .bool true, .bool true]) (by simp [results, Try.results8, go_sem] <;> omega) rfl ⟨rfl, ?_⟩
  repeat (first | with_reducible exact Below.refl _ _ | (with_reducible refine Below.setCell ?_ ?_ _; rotate_left; (first | omega | (simp; omega) | simp)) | with_reducible refine bel_drewN ?_ | with_reducible refine Below.drew ?_ | (with_reducible refine Below.alloc ?_ ?_ _; rotate_left; (first | omega | (simp; omega) | simp)))

set_option maxRecDepth 100000 in
set_option maxHeartbeats 1000000 in
theorem sense_rah_tf (s : ByteArray) (on : Bool) (delay hold run left u dl hd : Int) (w : World)
    (hu : ∀ w, Calls Try.prog 4 #[.int .i32 run] w fun e w' => e = .returned (.int .i32 u) ∧ w' = w)
    (ht : ∀ w, Calls Try.prog 14 #[.int .i64 delay] w fun e w' => e = .returned (.int .i32 dl) ∧ w' = w)
    (hh : ∀ w, Calls Try.prog 14 #[.int .i64 hold] w fun e w' => e = .returned (.int .i32 hd) ∧ w' = w) (hact : dl < u) (hl : 0 < left) (hlb : left ≤ 2147483647) :
    Calls Try.prog 8 #[.agg #[.string s, .bool true, .int .i64 delay, .int .i64 hold], .agg #[.int .i32 run, .int .i32 left, .bool on, .bool false], .bool true] w
      fun e w' => e = .returned (.agg #[.int .i32 u, .int .i32 hd, .bool true, .bool true]) ∧ Below w.heap.size w w' := by
  go_enter Try.func8, Try.ntmps8
  go_wp2_with (go_at_call 4; refine (hu _).mono ?_; rintro e w' ⟨rfl, rfl⟩)
  go_quiet ((go_at_call 14; exact Calls.quiet_of_same (ht _)))
  go_wp2_with (go_at_call 14; refine (hh _).mono ?_; rintro e w' ⟨rfl, rfl⟩)
  refine bodyPost_ret (v := .agg #[.int .i32 u, .int .i32 hd, .bool true, .bool true]) (by simp [results, Try.results8, go_sem] <;> omega) rfl ⟨rfl, ?_⟩
  repeat (first | with_reducible exact Below.refl _ _ | (with_reducible refine Below.setCell ?_ ?_ _; rotate_left; (first | omega | (simp; omega) | simp)) | with_reducible refine bel_drewN ?_ | with_reducible refine Below.drew ?_ | (with_reducible refine Below.alloc ?_ ?_ _; rotate_left; (first | omega | (simp; omega) | simp)))

set_option maxRecDepth 100000 in
set_option maxHeartbeats 1000000 in
theorem sense_raz_fx (s : ByteArray) (on mem : Bool) (delay hold run left u dl hd : Int) (w : World)
    (hu : ∀ w, Calls Try.prog 4 #[.int .i32 run] w fun e w' => e = .returned (.int .i32 u) ∧ w' = w)
    (ht : ∀ w, Calls Try.prog 14 #[.int .i64 delay] w fun e w' => e = .returned (.int .i32 dl) ∧ w' = w)
    (hh : ∀ w, Calls Try.prog 14 #[.int .i64 hold] w fun e w' => e = .returned (.int .i32 hd) ∧ w' = w) (hact : dl < u) (hl : ¬ 0 < left) (hlb : left ≤ 2147483647) :
    Calls Try.prog 8 #[.agg #[.string s, .bool false, .int .i64 delay, .int .i64 hold], .agg #[.int .i32 run, .int .i32 left, .bool on, .bool mem], .bool true] w
      fun e w' => e = .returned (.agg #[.int .i32 u, .int .i32 hd, .bool true, .bool false]) ∧ Below w.heap.size w w' := by
  go_enter Try.func8, Try.ntmps8
  go_wp2_with (go_at_call 4; refine (hu _).mono ?_; rintro e w' ⟨rfl, rfl⟩)
  go_quiet ((go_at_call 14; exact Calls.quiet_of_same (ht _)))
  go_wp2_with (go_at_call 14; refine (hh _).mono ?_; rintro e w' ⟨rfl, rfl⟩)
  refine bodyPost_ret (v := .agg #[.int .i32 u, .int .i32 hd, .bool true, .bool false]) (by simp [results, Try.results8, go_sem] <;> omega) rfl ⟨rfl, ?_⟩
  repeat (first | with_reducible exact Below.refl _ _ | (with_reducible refine Below.setCell ?_ ?_ _; rotate_left; (first | omega | (simp; omega) | simp)) | with_reducible refine bel_drewN ?_ | with_reducible refine Below.drew ?_ | (with_reducible refine Below.alloc ?_ ?_ _; rotate_left; (first | omega | (simp; omega) | simp)))

set_option maxRecDepth 100000 in
set_option maxHeartbeats 1000000 in
theorem sense_raz_tt (s : ByteArray) (on : Bool) (delay hold run left u dl hd : Int) (w : World)
    (hu : ∀ w, Calls Try.prog 4 #[.int .i32 run] w fun e w' => e = .returned (.int .i32 u) ∧ w' = w)
    (ht : ∀ w, Calls Try.prog 14 #[.int .i64 delay] w fun e w' => e = .returned (.int .i32 dl) ∧ w' = w)
    (hh : ∀ w, Calls Try.prog 14 #[.int .i64 hold] w fun e w' => e = .returned (.int .i32 hd) ∧ w' = w) (hact : dl < u) (hl : ¬ 0 < left) (hlb : left ≤ 2147483647) :
    Calls Try.prog 8 #[.agg #[.string s, .bool true, .int .i64 delay, .int .i64 hold], .agg #[.int .i32 run, .int .i32 left, .bool on, .bool true], .bool true] w
      fun e w' => e = .returned (.agg #[.int .i32 u, .int .i32 hd, .bool true, .bool true]) ∧ Below w.heap.size w w' := by
  go_enter Try.func8, Try.ntmps8
  go_wp2_with (go_at_call 4; refine (hu _).mono ?_; rintro e w' ⟨rfl, rfl⟩)
  go_quiet ((go_at_call 14; exact Calls.quiet_of_same (ht _)))
  go_wp2_with (go_at_call 14; refine (hh _).mono ?_; rintro e w' ⟨rfl, rfl⟩)
  refine bodyPost_ret (v := .agg #[.int .i32 u, .int .i32 hd, .bool true, .bool true]) (by simp [results, Try.results8, go_sem] <;> omega) rfl ⟨rfl, ?_⟩
  repeat (first | with_reducible exact Below.refl _ _ | (with_reducible refine Below.setCell ?_ ?_ _; rotate_left; (first | omega | (simp; omega) | simp)) | with_reducible refine bel_drewN ?_ | with_reducible refine Below.drew ?_ | (with_reducible refine Below.alloc ?_ ?_ _; rotate_left; (first | omega | (simp; omega) | simp)))

set_option maxRecDepth 100000 in
set_option maxHeartbeats 1000000 in
theorem sense_raz_tf (s : ByteArray) (on : Bool) (delay hold run left u dl hd : Int) (w : World)
    (hu : ∀ w, Calls Try.prog 4 #[.int .i32 run] w fun e w' => e = .returned (.int .i32 u) ∧ w' = w)
    (ht : ∀ w, Calls Try.prog 14 #[.int .i64 delay] w fun e w' => e = .returned (.int .i32 dl) ∧ w' = w)
    (hh : ∀ w, Calls Try.prog 14 #[.int .i64 hold] w fun e w' => e = .returned (.int .i32 hd) ∧ w' = w) (hact : dl < u) (hl : ¬ 0 < left) (hlb : left ≤ 2147483647) :
    Calls Try.prog 8 #[.agg #[.string s, .bool true, .int .i64 delay, .int .i64 hold], .agg #[.int .i32 run, .int .i32 left, .bool on, .bool false], .bool true] w
      fun e w' => e = .returned (.agg #[.int .i32 u, .int .i32 hd, .bool true, .bool true]) ∧ Below w.heap.size w w' := by
  go_enter Try.func8, Try.ntmps8
  go_wp2_with (go_at_call 4; refine (hu _).mono ?_; rintro e w' ⟨rfl, rfl⟩)
  go_quiet ((go_at_call 14; exact Calls.quiet_of_same (ht _)))
  go_wp2_with (go_at_call 14; refine (hh _).mono ?_; rintro e w' ⟨rfl, rfl⟩)
  refine bodyPost_ret (v := .agg #[.int .i32 u, .int .i32 hd, .bool true, .bool true]) (by simp [results, Try.results8, go_sem] <;> omega) rfl ⟨rfl, ?_⟩
  repeat (first | with_reducible exact Below.refl _ _ | (with_reducible refine Below.setCell ?_ ?_ _; rotate_left; (first | omega | (simp; omega) | simp)) | with_reducible refine bel_drewN ?_ | with_reducible refine Below.drew ?_ | (with_reducible refine Below.alloc ?_ ?_ _; rotate_left; (first | omega | (simp; omega) | simp)))

set_option maxRecDepth 100000 in
set_option maxHeartbeats 1000000 in
theorem sense_rih_fx (s : ByteArray) (on mem : Bool) (delay hold run left u dl hd : Int) (w : World)
    (hu : ∀ w, Calls Try.prog 4 #[.int .i32 run] w fun e w' => e = .returned (.int .i32 u) ∧ w' = w)
    (ht : ∀ w, Calls Try.prog 14 #[.int .i64 delay] w fun e w' => e = .returned (.int .i32 dl) ∧ w' = w)
    (hh : ∀ w, Calls Try.prog 14 #[.int .i64 hold] w fun e w' => e = .returned (.int .i32 hd) ∧ w' = w) (hact : ¬ dl < u) (hl : 0 < left) (hlb : left ≤ 2147483647) :
    Calls Try.prog 8 #[.agg #[.string s, .bool false, .int .i64 delay, .int .i64 hold], .agg #[.int .i32 run, .int .i32 left, .bool on, .bool mem], .bool true] w
      fun e w' => e = .returned (.agg #[.int .i32 u, .int .i32 (left - 1), .bool true, .bool false]) ∧ Below w.heap.size w w' := by
  go_enter Try.func8, Try.ntmps8
  go_wp2_with (go_at_call 4; refine (hu _).mono ?_; rintro e w' ⟨rfl, rfl⟩)
  go_quiet ((go_at_call 14; exact Calls.quiet_of_same (ht _)))
  go_wp2_with (go_at_call 14; refine (hh _).mono ?_; rintro e w' ⟨rfl, rfl⟩)
  refine bodyPost_ret (v := .agg #[.int .i32 u, .int .i32 (left - 1), .bool true, .bool false]) (by simp [results, Try.results8, go_sem] <;> omega) rfl ⟨rfl, ?_⟩
  repeat (first | with_reducible exact Below.refl _ _ | (with_reducible refine Below.setCell ?_ ?_ _; rotate_left; (first | omega | (simp; omega) | simp)) | with_reducible refine bel_drewN ?_ | with_reducible refine Below.drew ?_ | (with_reducible refine Below.alloc ?_ ?_ _; rotate_left; (first | omega | (simp; omega) | simp)))

set_option maxRecDepth 100000 in
set_option maxHeartbeats 1000000 in
theorem sense_rih_tt (s : ByteArray) (on : Bool) (delay hold run left u dl hd : Int) (w : World)
    (hu : ∀ w, Calls Try.prog 4 #[.int .i32 run] w fun e w' => e = .returned (.int .i32 u) ∧ w' = w)
    (ht : ∀ w, Calls Try.prog 14 #[.int .i64 delay] w fun e w' => e = .returned (.int .i32 dl) ∧ w' = w)
    (hh : ∀ w, Calls Try.prog 14 #[.int .i64 hold] w fun e w' => e = .returned (.int .i32 hd) ∧ w' = w) (hact : ¬ dl < u) (hl : 0 < left) (hlb : left ≤ 2147483647) :
    Calls Try.prog 8 #[.agg #[.string s, .bool true, .int .i64 delay, .int .i64 hold], .agg #[.int .i32 run, .int .i32 left, .bool on, .bool true], .bool true] w
      fun e w' => e = .returned (.agg #[.int .i32 u, .int .i32 (left - 1), .bool true, .bool true]) ∧ Below w.heap.size w w' := by
  go_enter Try.func8, Try.ntmps8
  go_wp2_with (go_at_call 4; refine (hu _).mono ?_; rintro e w' ⟨rfl, rfl⟩)
  go_quiet ((go_at_call 14; exact Calls.quiet_of_same (ht _)))
  go_wp2_with (go_at_call 14; refine (hh _).mono ?_; rintro e w' ⟨rfl, rfl⟩)
  refine bodyPost_ret (v := .agg #[.int .i32 u, .int .i32 (left - 1), .bool true, .bool true]) (by simp [results, Try.results8, go_sem] <;> omega) rfl ⟨rfl, ?_⟩
  repeat (first | with_reducible exact Below.refl _ _ | (with_reducible refine Below.setCell ?_ ?_ _; rotate_left; (first | omega | (simp; omega) | simp)) | with_reducible refine bel_drewN ?_ | with_reducible refine Below.drew ?_ | (with_reducible refine Below.alloc ?_ ?_ _; rotate_left; (first | omega | (simp; omega) | simp)))

set_option maxRecDepth 100000 in
set_option maxHeartbeats 1000000 in
theorem sense_rih_tf (s : ByteArray) (on : Bool) (delay hold run left u dl hd : Int) (w : World)
    (hu : ∀ w, Calls Try.prog 4 #[.int .i32 run] w fun e w' => e = .returned (.int .i32 u) ∧ w' = w)
    (ht : ∀ w, Calls Try.prog 14 #[.int .i64 delay] w fun e w' => e = .returned (.int .i32 dl) ∧ w' = w)
    (hh : ∀ w, Calls Try.prog 14 #[.int .i64 hold] w fun e w' => e = .returned (.int .i32 hd) ∧ w' = w) (hact : ¬ dl < u) (hl : 0 < left) (hlb : left ≤ 2147483647) :
    Calls Try.prog 8 #[.agg #[.string s, .bool true, .int .i64 delay, .int .i64 hold], .agg #[.int .i32 run, .int .i32 left, .bool on, .bool false], .bool true] w
      fun e w' => e = .returned (.agg #[.int .i32 u, .int .i32 (left - 1), .bool true, .bool false]) ∧ Below w.heap.size w w' := by
  go_enter Try.func8, Try.ntmps8
  go_wp2_with (go_at_call 4; refine (hu _).mono ?_; rintro e w' ⟨rfl, rfl⟩)
  go_quiet ((go_at_call 14; exact Calls.quiet_of_same (ht _)))
  go_wp2_with (go_at_call 14; refine (hh _).mono ?_; rintro e w' ⟨rfl, rfl⟩)
  refine bodyPost_ret (v := .agg #[.int .i32 u, .int .i32 (left - 1), .bool true, .bool false]) (by simp [results, Try.results8, go_sem] <;> omega) rfl ⟨rfl, ?_⟩
  repeat (first | with_reducible exact Below.refl _ _ | (with_reducible refine Below.setCell ?_ ?_ _; rotate_left; (first | omega | (simp; omega) | simp)) | with_reducible refine bel_drewN ?_ | with_reducible refine Below.drew ?_ | (with_reducible refine Below.alloc ?_ ?_ _; rotate_left; (first | omega | (simp; omega) | simp)))

set_option maxRecDepth 100000 in
set_option maxHeartbeats 1000000 in
theorem sense_riz_fx (s : ByteArray) (on mem : Bool) (delay hold run left u dl hd : Int) (w : World)
    (hu : ∀ w, Calls Try.prog 4 #[.int .i32 run] w fun e w' => e = .returned (.int .i32 u) ∧ w' = w)
    (ht : ∀ w, Calls Try.prog 14 #[.int .i64 delay] w fun e w' => e = .returned (.int .i32 dl) ∧ w' = w)
    (hh : ∀ w, Calls Try.prog 14 #[.int .i64 hold] w fun e w' => e = .returned (.int .i32 hd) ∧ w' = w) (hact : ¬ dl < u) (hl : ¬ 0 < left) (hlb : left ≤ 2147483647) :
    Calls Try.prog 8 #[.agg #[.string s, .bool false, .int .i64 delay, .int .i64 hold], .agg #[.int .i32 run, .int .i32 left, .bool on, .bool mem], .bool true] w
      fun e w' => e = .returned (.agg #[.int .i32 u, .int .i32 0, .bool false, .bool false]) ∧ Below w.heap.size w w' := by
  go_enter Try.func8, Try.ntmps8
  go_wp2_with (go_at_call 4; refine (hu _).mono ?_; rintro e w' ⟨rfl, rfl⟩)
  go_quiet ((go_at_call 14; exact Calls.quiet_of_same (ht _)))
  go_wp2_with (go_at_call 14; refine (hh _).mono ?_; rintro e w' ⟨rfl, rfl⟩)
  refine bodyPost_ret (v := .agg #[.int .i32 u, .int .i32 0, .bool false, .bool false]) (by simp [results, Try.results8, go_sem] <;> omega) rfl ⟨rfl, ?_⟩
  repeat (first | with_reducible exact Below.refl _ _ | (with_reducible refine Below.setCell ?_ ?_ _; rotate_left; (first | omega | (simp; omega) | simp)) | with_reducible refine bel_drewN ?_ | with_reducible refine Below.drew ?_ | (with_reducible refine Below.alloc ?_ ?_ _; rotate_left; (first | omega | (simp; omega) | simp)))

set_option maxRecDepth 100000 in
set_option maxHeartbeats 1000000 in
theorem sense_riz_tt (s : ByteArray) (on : Bool) (delay hold run left u dl hd : Int) (w : World)
    (hu : ∀ w, Calls Try.prog 4 #[.int .i32 run] w fun e w' => e = .returned (.int .i32 u) ∧ w' = w)
    (ht : ∀ w, Calls Try.prog 14 #[.int .i64 delay] w fun e w' => e = .returned (.int .i32 dl) ∧ w' = w)
    (hh : ∀ w, Calls Try.prog 14 #[.int .i64 hold] w fun e w' => e = .returned (.int .i32 hd) ∧ w' = w) (hact : ¬ dl < u) (hl : ¬ 0 < left) (hlb : left ≤ 2147483647) :
    Calls Try.prog 8 #[.agg #[.string s, .bool true, .int .i64 delay, .int .i64 hold], .agg #[.int .i32 run, .int .i32 left, .bool on, .bool true], .bool true] w
      fun e w' => e = .returned (.agg #[.int .i32 u, .int .i32 0, .bool false, .bool true]) ∧ Below w.heap.size w w' := by
  go_enter Try.func8, Try.ntmps8
  go_wp2_with (go_at_call 4; refine (hu _).mono ?_; rintro e w' ⟨rfl, rfl⟩)
  go_quiet ((go_at_call 14; exact Calls.quiet_of_same (ht _)))
  go_wp2_with (go_at_call 14; refine (hh _).mono ?_; rintro e w' ⟨rfl, rfl⟩)
  refine bodyPost_ret (v := .agg #[.int .i32 u, .int .i32 0, .bool false, .bool true]) (by simp [results, Try.results8, go_sem] <;> omega) rfl ⟨rfl, ?_⟩
  repeat (first | with_reducible exact Below.refl _ _ | (with_reducible refine Below.setCell ?_ ?_ _; rotate_left; (first | omega | (simp; omega) | simp)) | with_reducible refine bel_drewN ?_ | with_reducible refine Below.drew ?_ | (with_reducible refine Below.alloc ?_ ?_ _; rotate_left; (first | omega | (simp; omega) | simp)))

set_option maxRecDepth 100000 in
set_option maxHeartbeats 1000000 in
theorem sense_riz_tf (s : ByteArray) (on : Bool) (delay hold run left u dl hd : Int) (w : World)
    (hu : ∀ w, Calls Try.prog 4 #[.int .i32 run] w fun e w' => e = .returned (.int .i32 u) ∧ w' = w)
    (ht : ∀ w, Calls Try.prog 14 #[.int .i64 delay] w fun e w' => e = .returned (.int .i32 dl) ∧ w' = w)
    (hh : ∀ w, Calls Try.prog 14 #[.int .i64 hold] w fun e w' => e = .returned (.int .i32 hd) ∧ w' = w) (hact : ¬ dl < u) (hl : ¬ 0 < left) (hlb : left ≤ 2147483647) :
    Calls Try.prog 8 #[.agg #[.string s, .bool true, .int .i64 delay, .int .i64 hold], .agg #[.int .i32 run, .int .i32 left, .bool on, .bool false], .bool true] w
      fun e w' => e = .returned (.agg #[.int .i32 u, .int .i32 0, .bool false, .bool false]) ∧ Below w.heap.size w w' := by
  go_enter Try.func8, Try.ntmps8
  go_wp2_with (go_at_call 4; refine (hu _).mono ?_; rintro e w' ⟨rfl, rfl⟩)
  go_quiet ((go_at_call 14; exact Calls.quiet_of_same (ht _)))
  go_wp2_with (go_at_call 14; refine (hh _).mono ?_; rintro e w' ⟨rfl, rfl⟩)
  refine bodyPost_ret (v := .agg #[.int .i32 u, .int .i32 0, .bool false, .bool false]) (by simp [results, Try.results8, go_sem] <;> omega) rfl ⟨rfl, ?_⟩
  repeat (first | with_reducible exact Below.refl _ _ | (with_reducible refine Below.setCell ?_ ?_ _; rotate_left; (first | omega | (simp; omega) | simp)) | with_reducible refine bel_drewN ?_ | with_reducible refine Below.drew ?_ | (with_reducible refine Below.alloc ?_ ?_ _; rotate_left; (first | omega | (simp; omega) | simp)))

set_option maxRecDepth 100000 in
set_option maxHeartbeats 1000000 in
theorem sense_nih_fx (s : ByteArray) (on mem : Bool) (delay hold run left u dl hd : Int) (w : World)
    (hu : ∀ w, Calls Try.prog 4 #[.int .i32 run] w fun e w' => e = .returned (.int .i32 u) ∧ w' = w)
    (ht : ∀ w, Calls Try.prog 14 #[.int .i64 delay] w fun e w' => e = .returned (.int .i32 dl) ∧ w' = w)
    (hh : ∀ w, Calls Try.prog 14 #[.int .i64 hold] w fun e w' => e = .returned (.int .i32 hd) ∧ w' = w) (hact : 0 ≤ dl) (hl : 0 < left) (hlb : left ≤ 2147483647) :
    Calls Try.prog 8 #[.agg #[.string s, .bool false, .int .i64 delay, .int .i64 hold], .agg #[.int .i32 run, .int .i32 left, .bool on, .bool mem], .bool false] w
      fun e w' => e = .returned (.agg #[.int .i32 0, .int .i32 (left - 1), .bool true, .bool false]) ∧ Below w.heap.size w w' := by
  go_enter Try.func8, Try.ntmps8
  go_wp2_with (go_at_call 4; refine (hu _).mono ?_; rintro e w' ⟨rfl, rfl⟩)
  go_quiet ((go_at_call 14; exact Calls.quiet_of_same (ht _)))
  go_wp2_with (go_at_call 14; refine (hh _).mono ?_; rintro e w' ⟨rfl, rfl⟩)
  refine bodyPost_ret (v := .agg #[.int .i32 0, .int .i32 (left - 1), .bool true, .bool false]) (by simp [results, Try.results8, go_sem] <;> omega) rfl ⟨rfl, ?_⟩
  repeat (first | with_reducible exact Below.refl _ _ | (with_reducible refine Below.setCell ?_ ?_ _; rotate_left; (first | omega | (simp; omega) | simp)) | with_reducible refine bel_drewN ?_ | with_reducible refine Below.drew ?_ | (with_reducible refine Below.alloc ?_ ?_ _; rotate_left; (first | omega | (simp; omega) | simp)))

set_option maxRecDepth 100000 in
set_option maxHeartbeats 1000000 in
theorem sense_nih_tt (s : ByteArray) (on : Bool) (delay hold run left u dl hd : Int) (w : World)
    (hu : ∀ w, Calls Try.prog 4 #[.int .i32 run] w fun e w' => e = .returned (.int .i32 u) ∧ w' = w)
    (ht : ∀ w, Calls Try.prog 14 #[.int .i64 delay] w fun e w' => e = .returned (.int .i32 dl) ∧ w' = w)
    (hh : ∀ w, Calls Try.prog 14 #[.int .i64 hold] w fun e w' => e = .returned (.int .i32 hd) ∧ w' = w) (hact : 0 ≤ dl) (hl : 0 < left) (hlb : left ≤ 2147483647) :
    Calls Try.prog 8 #[.agg #[.string s, .bool true, .int .i64 delay, .int .i64 hold], .agg #[.int .i32 run, .int .i32 left, .bool on, .bool true], .bool false] w
      fun e w' => e = .returned (.agg #[.int .i32 0, .int .i32 (left - 1), .bool true, .bool true]) ∧ Below w.heap.size w w' := by
  go_enter Try.func8, Try.ntmps8
  go_wp2_with (go_at_call 4; refine (hu _).mono ?_; rintro e w' ⟨rfl, rfl⟩)
  go_quiet ((go_at_call 14; exact Calls.quiet_of_same (ht _)))
  go_wp2_with (go_at_call 14; refine (hh _).mono ?_; rintro e w' ⟨rfl, rfl⟩)
  refine bodyPost_ret (v := .agg #[.int .i32 0, .int .i32 (left - 1), .bool true, .bool true]) (by simp [results, Try.results8, go_sem] <;> omega) rfl ⟨rfl, ?_⟩
  repeat (first | with_reducible exact Below.refl _ _ | (with_reducible refine Below.setCell ?_ ?_ _; rotate_left; (first | omega | (simp; omega) | simp)) | with_reducible refine bel_drewN ?_ | with_reducible refine Below.drew ?_ | (with_reducible refine Below.alloc ?_ ?_ _; rotate_left; (first | omega | (simp; omega) | simp)))

set_option maxRecDepth 100000 in
set_option maxHeartbeats 1000000 in
theorem sense_nih_tf (s : ByteArray) (on : Bool) (delay hold run left u dl hd : Int) (w : World)
    (hu : ∀ w, Calls Try.prog 4 #[.int .i32 run] w fun e w' => e = .returned (.int .i32 u) ∧ w' = w)
    (ht : ∀ w, Calls Try.prog 14 #[.int .i64 delay] w fun e w' => e = .returned (.int .i32 dl) ∧ w' = w)
    (hh : ∀ w, Calls Try.prog 14 #[.int .i64 hold] w fun e w' => e = .returned (.int .i32 hd) ∧ w' = w) (hact : 0 ≤ dl) (hl : 0 < left) (hlb : left ≤ 2147483647) :
    Calls Try.prog 8 #[.agg #[.string s, .bool true, .int .i64 delay, .int .i64 hold], .agg #[.int .i32 run, .int .i32 left, .bool on, .bool false], .bool false] w
      fun e w' => e = .returned (.agg #[.int .i32 0, .int .i32 (left - 1), .bool true, .bool false]) ∧ Below w.heap.size w w' := by
  go_enter Try.func8, Try.ntmps8
  go_wp2_with (go_at_call 4; refine (hu _).mono ?_; rintro e w' ⟨rfl, rfl⟩)
  go_quiet ((go_at_call 14; exact Calls.quiet_of_same (ht _)))
  go_wp2_with (go_at_call 14; refine (hh _).mono ?_; rintro e w' ⟨rfl, rfl⟩)
  refine bodyPost_ret (v := .agg #[.int .i32 0, .int .i32 (left - 1), .bool true, .bool false]) (by simp [results, Try.results8, go_sem] <;> omega) rfl ⟨rfl, ?_⟩
  repeat (first | with_reducible exact Below.refl _ _ | (with_reducible refine Below.setCell ?_ ?_ _; rotate_left; (first | omega | (simp; omega) | simp)) | with_reducible refine bel_drewN ?_ | with_reducible refine Below.drew ?_ | (with_reducible refine Below.alloc ?_ ?_ _; rotate_left; (first | omega | (simp; omega) | simp)))

set_option maxRecDepth 100000 in
set_option maxHeartbeats 1000000 in
theorem sense_niz_fx (s : ByteArray) (on mem : Bool) (delay hold run left u dl hd : Int) (w : World)
    (hu : ∀ w, Calls Try.prog 4 #[.int .i32 run] w fun e w' => e = .returned (.int .i32 u) ∧ w' = w)
    (ht : ∀ w, Calls Try.prog 14 #[.int .i64 delay] w fun e w' => e = .returned (.int .i32 dl) ∧ w' = w)
    (hh : ∀ w, Calls Try.prog 14 #[.int .i64 hold] w fun e w' => e = .returned (.int .i32 hd) ∧ w' = w) (hact : 0 ≤ dl) (hl : ¬ 0 < left) (hlb : left ≤ 2147483647) :
    Calls Try.prog 8 #[.agg #[.string s, .bool false, .int .i64 delay, .int .i64 hold], .agg #[.int .i32 run, .int .i32 left, .bool on, .bool mem], .bool false] w
      fun e w' => e = .returned (.agg #[.int .i32 0, .int .i32 0, .bool false, .bool false]) ∧ Below w.heap.size w w' := by
  go_enter Try.func8, Try.ntmps8
  go_wp2_with (go_at_call 4; refine (hu _).mono ?_; rintro e w' ⟨rfl, rfl⟩)
  go_quiet ((go_at_call 14; exact Calls.quiet_of_same (ht _)))
  go_wp2_with (go_at_call 14; refine (hh _).mono ?_; rintro e w' ⟨rfl, rfl⟩)
  refine bodyPost_ret (v := .agg #[.int .i32 0, .int .i32 0, .bool false, .bool false]) (by simp [results, Try.results8, go_sem] <;> omega) rfl ⟨rfl, ?_⟩
  repeat (first | with_reducible exact Below.refl _ _ | (with_reducible refine Below.setCell ?_ ?_ _; rotate_left; (first | omega | (simp; omega) | simp)) | with_reducible refine bel_drewN ?_ | with_reducible refine Below.drew ?_ | (with_reducible refine Below.alloc ?_ ?_ _; rotate_left; (first | omega | (simp; omega) | simp)))

set_option maxRecDepth 100000 in
set_option maxHeartbeats 1000000 in
theorem sense_niz_tt (s : ByteArray) (on : Bool) (delay hold run left u dl hd : Int) (w : World)
    (hu : ∀ w, Calls Try.prog 4 #[.int .i32 run] w fun e w' => e = .returned (.int .i32 u) ∧ w' = w)
    (ht : ∀ w, Calls Try.prog 14 #[.int .i64 delay] w fun e w' => e = .returned (.int .i32 dl) ∧ w' = w)
    (hh : ∀ w, Calls Try.prog 14 #[.int .i64 hold] w fun e w' => e = .returned (.int .i32 hd) ∧ w' = w) (hact : 0 ≤ dl) (hl : ¬ 0 < left) (hlb : left ≤ 2147483647) :
    Calls Try.prog 8 #[.agg #[.string s, .bool true, .int .i64 delay, .int .i64 hold], .agg #[.int .i32 run, .int .i32 left, .bool on, .bool true], .bool false] w
      fun e w' => e = .returned (.agg #[.int .i32 0, .int .i32 0, .bool false, .bool true]) ∧ Below w.heap.size w w' := by
  go_enter Try.func8, Try.ntmps8
  go_wp2_with (go_at_call 4; refine (hu _).mono ?_; rintro e w' ⟨rfl, rfl⟩)
  go_quiet ((go_at_call 14; exact Calls.quiet_of_same (ht _)))
  go_wp2_with (go_at_call 14; refine (hh _).mono ?_; rintro e w' ⟨rfl, rfl⟩)
  refine bodyPost_ret (v := .agg #[.int .i32 0, .int .i32 0, .bool false, .bool true]) (by simp [results, Try.results8, go_sem] <;> omega) rfl ⟨rfl, ?_⟩
  repeat (first | with_reducible exact Below.refl _ _ | (with_reducible refine Below.setCell ?_ ?_ _; rotate_left; (first | omega | (simp; omega) | simp)) | with_reducible refine bel_drewN ?_ | with_reducible refine Below.drew ?_ | (with_reducible refine Below.alloc ?_ ?_ _; rotate_left; (first | omega | (simp; omega) | simp)))

set_option maxRecDepth 100000 in
set_option maxHeartbeats 1000000 in
theorem sense_niz_tf (s : ByteArray) (on : Bool) (delay hold run left u dl hd : Int) (w : World)
    (hu : ∀ w, Calls Try.prog 4 #[.int .i32 run] w fun e w' => e = .returned (.int .i32 u) ∧ w' = w)
    (ht : ∀ w, Calls Try.prog 14 #[.int .i64 delay] w fun e w' => e = .returned (.int .i32 dl) ∧ w' = w)
    (hh : ∀ w, Calls Try.prog 14 #[.int .i64 hold] w fun e w' => e = .returned (.int .i32 hd) ∧ w' = w) (hact : 0 ≤ dl) (hl : ¬ 0 < left) (hlb : left ≤ 2147483647) :
    Calls Try.prog 8 #[.agg #[.string s, .bool true, .int .i64 delay, .int .i64 hold], .agg #[.int .i32 run, .int .i32 left, .bool on, .bool false], .bool false] w
      fun e w' => e = .returned (.agg #[.int .i32 0, .int .i32 0, .bool false, .bool false]) ∧ Below w.heap.size w w' := by
  go_enter Try.func8, Try.ntmps8
  go_wp2_with (go_at_call 4; refine (hu _).mono ?_; rintro e w' ⟨rfl, rfl⟩)
  go_quiet ((go_at_call 14; exact Calls.quiet_of_same (ht _)))
  go_wp2_with (go_at_call 14; refine (hh _).mono ?_; rintro e w' ⟨rfl, rfl⟩)
  refine bodyPost_ret (v := .agg #[.int .i32 0, .int .i32 0, .bool false, .bool false]) (by simp [results, Try.results8, go_sem] <;> omega) rfl ⟨rfl, ?_⟩
  repeat (first | with_reducible exact Below.refl _ _ | (with_reducible refine Below.setCell ?_ ?_ _; rotate_left; (first | omega | (simp; omega) | simp)) | with_reducible refine bel_drewN ?_ | with_reducible refine Below.drew ?_ | (with_reducible refine Below.alloc ?_ ?_ _; rotate_left; (first | omega | (simp; omega) | simp)))

end Go.Proofs.Ytcehnibfmhbeiab
