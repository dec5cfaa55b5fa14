import Derived.Test.YthflpnahifpdnaaHdA
namespace Go.Proofs.Ythflpnahifpdnaa
open Go.RowKit
set_option linter.unusedVariables false

set_option maxRecDepth 100000 in
set_option maxHeartbeats 4000000 in
theorem fitsGroup_any (nm : ByteArray) (s mi am le a i v : Int) (w : World) (hi : inI32 i) :
    Calls Try.prog 48 #[.agg #[.string nm, .int .i64 s, .int .i64 mi, .int .i64 am, .int .i64 le], .int .i64 a, .int .i32 i, .int .i32 v] w fun e w' => e = .returned (.bool (fitB ⟨nm, s, mi, am, le⟩ a i v)) ∧ Below w.heap.size w w' := by
  have hc := conv32 hi
  generalize hR : fitB ⟨nm, s, mi, am, le⟩ a i v = R
  unfold fitB at hR
  by_cases d1 : i < 1
  · have e : R = false := by rw [← hR]; simp; omega
    subst e
    clear hR
    go_enter Try.func48, Try.ntmps48
    go_wp2
    go_ret
    exact ⟨rfl, belN1⟩
  · by_cases d2 : v < 0
    · have e : R = false := by rw [← hR]; simp; omega
      subst e
      clear hR
      go_enter Try.func48, Try.ntmps48
      go_wp2
      go_ret
      exact ⟨rfl, belN1⟩
    · by_cases d3 : v = 0
      · subst d3
        by_cases d4 : a = 2
        · subst d4
          have e : R = true := by rw [← hR]; simp; omega
          subst e
          clear hR
          go_enter Try.func48, Try.ntmps48
          go_wp2
          go_ret
          exact ⟨rfl, belN1⟩
        · have e : R = false := by rw [← hR]; simp [d4]
          have f4 : (a == 2) = false := by simpa using d4
          subst e
          clear hR
          go_enter Try.func48, Try.ntmps48
          go_wp2
          go_ret
          exact ⟨rfl, belN1⟩
      · have f3 : (v == 0) = false := by simpa using d3
        by_cases d4 : a = 2
        · subst d4
          have e : R = false := by rw [← hR]; simp [d3]
          subst e
          clear hR
          go_enter Try.func48, Try.ntmps48
          go_wp2
          go_ret
          exact ⟨rfl, belN1⟩
        · have f4 : (a == 2) = false := by simpa using d4
          by_cases d5 : a = 0
          · subst d5
            have e : R = true := by rw [← hR]; simp [d3]; omega
            subst e
            clear hR
            go_enter Try.func48, Try.ntmps48
            go_wp2
            go_ret
            exact ⟨rfl, belN1⟩
          · have f5 : (a == 0) = false := by simpa using d5
            by_cases d6 : a = 1
            · subst d6
              have e : decide (i ≤ le) = R := by rw [← hR]; have q1 : 1 ≤ i := (by omega); have q2 : 0 ≤ v := (by omega); simp [d3, q1, q2]
              clear hR
              go_enter Try.func48, Try.ntmps48
              go_wp2
              go_ret
              exact ⟨by first | rfl | exact ret_bool e | (simp [e]), belN1⟩
            · have f6 : (a == 1) = false := by simpa using d6
              by_cases d7 : a = 3
              · subst d7
                have e : decide (i ≤ am) = R := by rw [← hR]; have q1 : 1 ≤ i := (by omega); have q2 : 0 ≤ v := (by omega); simp [d3, q1, q2]
                clear hR
                go_enter Try.func48, Try.ntmps48
                go_wp2
                go_ret
                exact ⟨by first | rfl | exact ret_bool e | (simp [e]), belN1⟩
              · have e : R = false := by rw [← hR]; simp [d4, d5, d6, d7]
                have f7 : (a == 3) = false := by simpa using d7
                subst e
                clear hR
                go_enter Try.func48, Try.ntmps48
                go_wp2
                go_ret
                exact ⟨rfl, belN1⟩
end Go.Proofs.Ythflpnahifpdnaa
