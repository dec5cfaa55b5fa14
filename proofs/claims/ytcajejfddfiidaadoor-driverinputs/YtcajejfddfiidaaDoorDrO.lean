import Derived.Test.YtcajejfddfiidaaDoorDrN
namespace Go.Proofs.YtcajejfddfiidaaDoor
open Go.RowKit
set_option linter.unusedVariables false
set_option linter.unusedSimpArgs false

set_option maxRecDepth 100000 in
set_option maxHeartbeats 2000000 in
theorem cut_any (s : ByteArray) (c : UInt8) (w : World) (hs : s.size ≤ 9223372036854775806) : Calls Tryd.prog 33 #[.string s, .string ⟨#[c]⟩] w fun e w' => CuP s c e ∧ ∃ n, w' = w.drewN n := by
  have hI := fun X => cut48_any s c X hs
  have hq : ∀ e, e = .returned (.tuple #[.string ⟨(cutB c s.data.toList).1.toArray⟩, .string ⟨(cutB c s.data.toList).2.1.toArray⟩, .bool (cutB c s.data.toList).2.2]) → CuP s c e := fun e he => he
  go_enter Tryd.func33, Tryd.ntmps33
  go_wp2_with fail
  go_at_call 48
  refine Calls.mono (hI _) ?_
  rintro e w1 ⟨h1, n, hw1⟩
  unfold CuP at h1
  subst h1
  have hw1' : Hid (w1 = w.drewN n) := hw1
  clear hw1 hI
  generalize (cutB c s.data.toList).1 = A at *
  generalize (cutB c s.data.toList).2.1 = B at *
  generalize (cutB c s.data.toList).2.2 = b at *
  go_wp2_with fail
  go_ret3
  exact ⟨hq _ rfl, n, hw1'.out⟩
/-- What readTicks answers: the ticks, or some numbers and false. -/
def TkP (ct : List UInt8 → Option Nat) (t : ByteArray) (e : Ending) : Prop :=
  match tkR ct t.data.toList with
  | some (a, b) => e = .returned (.tuple #[.int .i64 (a : Int), .int .i64 (b : Int), .bool true])
  | none => ∃ u v : Int, e = .returned (.tuple #[.int .i64 u, .int .i64 v, .bool false])
set_option maxRecDepth 100000 in
set_option maxHeartbeats 2000000 in
theorem readTicks_any (ct : List UInt8 → Option Nat) (t : ByteArray) (w : World) (hs : t.size ≤ 9223372036854775806) (hC : CtC ct ⟨(cutB 45 t.data.toList).1.toArray⟩ w) (hD : CtC ct ⟨(cutB 45 t.data.toList).2.1.toArray⟩ w) : Calls Tryd.prog 40 #[.string t] w fun e w' => TkP ct t e ∧ Below w.heap.size w w' := by
  have hI := fun X => cut_any t 45 X hs
  have hP : ∀ e, TkP ct t e = match tkR ct t.data.toList with
    | some (a, b) => e = .returned (.tuple #[.int .i64 (a : Int), .int .i64 (b : Int), .bool true])
    | none => ∃ u v : Int, e = .returned (.tuple #[.int .i64 u, .int .i64 v, .bool false]) := fun _ => rfl
  unfold CuP at hI
  unfold tkR at hP
  generalize (cutB 45 t.data.toList).1 = f at *
  generalize (cutB 45 t.data.toList).2.1 = g at *
  generalize (cutB 45 t.data.toList).2.2 = m at *
  have hC' : Hid (CtC ct ⟨f.toArray⟩ w) := hC
  have hD' : Hid (CtC ct ⟨g.toArray⟩ w) := hD
  have hI' : Hid _ := hI
  clear hC hD hI
  generalize TkP ct t = T at *
  cases hf : ct f with
  | none =>
    have hp : ∀ (u v : Int) e, e = .returned (.tuple #[.int .i64 u, .int .i64 v, .bool false]) → T e := by
      intro u v e he; rw [hP, hf]; exact ⟨u, v, he⟩
    clear hP
    go_enter Tryd.func40, Tryd.ntmps40
    go_wp2_with fail
    go_at_call 33
    refine Calls.mono (hI'.out _) ?_
    rintro e w1 ⟨rfl, n, hw1⟩
    have hb1 : Below w.heap.size w w1 := by rw [hw1]; exact bel_drewN (Below.refl _ _)
    clear hw1
    go_wp2_with fail
    go_at_call 55
    refine Calls.mono (hC'.out _ hb1) ?_
    rintro e w2 ⟨h2, hw2⟩
    have hb2 := hb1.trans (hw2.mono hb1.size)
    unfold CtP at h2
    rw [show (⟨f.toArray⟩ : ByteArray).data.toList = f by simp, hf] at h2
    obtain ⟨u, rfl⟩ := h2
    clear hw2 hb1
    go_wp2_with fail
    go_ret3
    exact ⟨hp _ _ _ rfl, hb2⟩
  | some a =>
    cases m with
    | false =>
      have hp : ∀ e, e = .returned (.tuple #[.int .i64 (a : Int), .int .i64 (a : Int), .bool true]) → T e := by
        intro e he; rw [hP, hf]; exact he
      clear hP
      go_enter Tryd.func40, Tryd.ntmps40
      go_wp2_with fail
      go_at_call 33
      refine Calls.mono (hI'.out _) ?_
      rintro e w1 ⟨rfl, n, hw1⟩
      have hb1 : Below w.heap.size w w1 := by rw [hw1]; exact bel_drewN (Below.refl _ _)
      clear hw1
      go_wp2_with fail
      go_at_call 55
      refine Calls.mono (hC'.out _ hb1) ?_
      rintro e w2 ⟨h2, hw2⟩
      have hb2 := hb1.trans (hw2.mono hb1.size)
      unfold CtP at h2
      rw [show (⟨f.toArray⟩ : ByteArray).data.toList = f by simp, hf] at h2
      cases h2
      clear hw2 hb1
      go_wp2_with fail
      go_ret3
      exact ⟨hp _ rfl, hb2⟩
    | true =>
      cases hg : ct g with
      | none =>
        have hp : ∀ (u v : Int) e, e = .returned (.tuple #[.int .i64 u, .int .i64 v, .bool false]) → T e := by
          intro u v e he; rw [hP, hf]; simp only [Option.bind_some]; rw [if_pos trivial, hg]; exact ⟨u, v, he⟩
        clear hP
        go_enter Tryd.func40, Tryd.ntmps40
        go_wp2_with fail
        go_at_call 33
        refine Calls.mono (hI'.out _) ?_
        rintro e w1 ⟨rfl, n, hw1⟩
        have hb1 : Below w.heap.size w w1 := by rw [hw1]; exact bel_drewN (Below.refl _ _)
        clear hw1
        go_wp2_with fail
        go_at_call 55
        refine Calls.mono (hC'.out _ hb1) ?_
        rintro e w2 ⟨h2, hw2⟩
        have hb2 := hb1.trans (hw2.mono hb1.size)
        unfold CtP at h2
        rw [show (⟨f.toArray⟩ : ByteArray).data.toList = f by simp, hf] at h2
        cases h2
        clear hw2 hb1
        go_wp2_with fail
        go_at_call 55
        refine Calls.mono (hD'.out _ hb2) ?_
        rintro e w3 ⟨h3, hw3⟩
        have hb3 := hb2.trans (hw3.mono hb2.size)
        unfold CtP at h3
        rw [show (⟨g.toArray⟩ : ByteArray).data.toList = g by simp, hg] at h3
        obtain ⟨u, rfl⟩ := h3
        clear hw3 hb2
        go_wp2_with fail
        go_ret3
        exact ⟨hp _ _ _ rfl, hb3⟩
      | some b =>
        by_cases hab : a < b
        · have hp : ∀ e, e = .returned (.tuple #[.int .i64 (a : Int), .int .i64 (b : Int), .bool true]) → T e := by
            intro e he; rw [hP, hf]; simp only [Option.bind_some]; rw [if_pos trivial, hg]; simp only [Option.bind_some]; rw [if_pos hab]; exact he
          have hab1 : (a : Int) < (b : Int) := by omega
          clear hP
          go_enter Tryd.func40, Tryd.ntmps40
          go_wp2_with fail
          go_at_call 33
          refine Calls.mono (hI'.out _) ?_
          rintro e w1 ⟨rfl, n, hw1⟩
          have hb1 : Below w.heap.size w w1 := by rw [hw1]; exact bel_drewN (Below.refl _ _)
          clear hw1
          go_wp2_with fail
          go_at_call 55
          refine Calls.mono (hC'.out _ hb1) ?_
          rintro e w2 ⟨h2, hw2⟩
          have hb2 := hb1.trans (hw2.mono hb1.size)
          unfold CtP at h2
          rw [show (⟨f.toArray⟩ : ByteArray).data.toList = f by simp, hf] at h2
          cases h2
          clear hw2 hb1
          go_wp2_with fail
          go_at_call 55
          refine Calls.mono (hD'.out _ hb2) ?_
          rintro e w3 ⟨h3, hw3⟩
          have hb3 := hb2.trans (hw3.mono hb2.size)
          unfold CtP at h3
          rw [show (⟨g.toArray⟩ : ByteArray).data.toList = g by simp, hg] at h3
          cases h3
          clear hw3 hb2
          go_wp2_with fail
          go_ret3
          exact ⟨hp _ rfl, hb3⟩
        · have hp : ∀ (u v : Int) e, e = .returned (.tuple #[.int .i64 u, .int .i64 v, .bool false]) → T e := by
            intro u v e he; rw [hP, hf]; simp only [Option.bind_some]; rw [if_pos trivial, hg]; simp only [Option.bind_some]; rw [if_neg hab]; exact ⟨u, v, he⟩
          have hab1 : ¬ (a : Int) < (b : Int) := by omega
          clear hP
          go_enter Tryd.func40, Tryd.ntmps40
          go_wp2_with fail
          go_at_call 33
          refine Calls.mono (hI'.out _) ?_
          rintro e w1 ⟨rfl, n, hw1⟩
          have hb1 : Below w.heap.size w w1 := by rw [hw1]; exact bel_drewN (Below.refl _ _)
          clear hw1
          go_wp2_with fail
          go_at_call 55
          refine Calls.mono (hC'.out _ hb1) ?_
          rintro e w2 ⟨h2, hw2⟩
          have hb2 := hb1.trans (hw2.mono hb1.size)
          unfold CtP at h2
          rw [show (⟨f.toArray⟩ : ByteArray).data.toList = f by simp, hf] at h2
          cases h2
          clear hw2 hb1
          go_wp2_with fail
          go_at_call 55
          refine Calls.mono (hD'.out _ hb2) ?_
          rintro e w3 ⟨h3, hw3⟩
          have hb3 := hb2.trans (hw3.mono hb2.size)
          unfold CtP at h3
          rw [show (⟨g.toArray⟩ : ByteArray).data.toList = g by simp, hg] at h3
          cases h3
          clear hw3 hb2
          go_wp2_with fail
          go_ret3
          exact ⟨hp _ _ _ rfl, hb3⟩
end Go.Proofs.YtcajejfddfiidaaDoor
