import Derived.Test.YtoaokpmnjppfcaaWaB
namespace Go.Proofs.Ytoaokpmnjppfcaa
open Go.RowKit
set_option linter.unusedVariables false
set_option linter.unusedSimpArgs false

set_option maxRecDepth 100000 in
set_option maxHeartbeats 1000000 in
theorem mayFollow_any (n mi am le p c : Int) (w : World) : Calls Try.prog 50 #[.agg #[.int .i64 n, .int .i64 mi, .int .i64 am, .int .i64 le], .int .u8 p, .int .u8 c] w fun e w' => e = .returned (.bool (mfB ⟨n, mi, am, le⟩ p c)) ∧ Below w.heap.size w w' := by
  by_cases hp114 : p = 114
  · subst hp114
    by_cases hc114 : c = 114
    · subst hc114
      go_enter Try.func50, Try.ntmps50
      go_wp2
      go_ret
      exact ⟨by first | rfl | (refine ret_bool ?_; simp [mfB, *]; done) | (refine ret_bool ?_; simp_all [mfB]; done) | (refine ret_bool ?_; rw [Bool.eq_iff_iff]; simp [mfB, h1]; done), belN1⟩
    · have gc114 : (c == 114) = false := beq_eq_false_iff_ne.2 hc114
      have nc114 : (c != 114) = true := by simpa using hc114
      by_cases hc108 : c = 108
      · subst hc108
        by_cases hl : 0 < le
        · skip
          go_enter Try.func50, Try.ntmps50
          go_wp2
          go_ret
          exact ⟨by first | rfl | (refine ret_bool ?_; simp [mfB, *]; done) | (refine ret_bool ?_; simp_all [mfB]; done) | (refine ret_bool ?_; rw [Bool.eq_iff_iff]; simp [mfB, h1]; done), belN1⟩
        · skip
          go_enter Try.func50, Try.ntmps50
          go_wp2
          go_ret
          exact ⟨by first | rfl | (refine ret_bool ?_; simp [mfB, *]; done) | (refine ret_bool ?_; simp_all [mfB]; done) | (refine ret_bool ?_; rw [Bool.eq_iff_iff]; simp [mfB, h1]; done), belN1⟩
      · have gc108 : (c == 108) = false := beq_eq_false_iff_ne.2 hc108
        have nc108 : (c != 108) = true := by simpa using hc108
        by_cases hc103 : c = 103
        · subst hc103
          go_enter Try.func50, Try.ntmps50
          go_wp2
          go_ret
          exact ⟨by first | rfl | (refine ret_bool ?_; simp [mfB, *]; done) | (refine ret_bool ?_; simp_all [mfB]; done) | (refine ret_bool ?_; rw [Bool.eq_iff_iff]; simp [mfB, h1]; done), belN1⟩
        · have gc103 : (c == 103) = false := beq_eq_false_iff_ne.2 hc103
          have nc103 : (c != 103) = true := by simpa using hc103
          go_enter Try.func50, Try.ntmps50
          go_wp2
          go_ret
          exact ⟨by first | rfl | (refine ret_bool ?_; simp [mfB, *]; done) | (refine ret_bool ?_; simp_all [mfB]; done) | (refine ret_bool ?_; rw [Bool.eq_iff_iff]; simp [mfB, h1]; done), belN1⟩
  · have gp114 : (p == 114) = false := beq_eq_false_iff_ne.2 hp114
    have np114 : (p != 114) = true := by simpa using hp114
    by_cases hp108 : p = 108
    · subst hp108
      by_cases hc108 : c = 108
      · subst hc108
        go_enter Try.func50, Try.ntmps50
        go_wp2
        go_ret
        exact ⟨by first | rfl | (refine ret_bool ?_; simp [mfB, *]; done) | (refine ret_bool ?_; simp_all [mfB]; done) | (refine ret_bool ?_; rw [Bool.eq_iff_iff]; simp [mfB, h1]; done), belN1⟩
      · have gc108 : (c == 108) = false := beq_eq_false_iff_ne.2 hc108
        have nc108 : (c != 108) = true := by simpa using hc108
        by_cases hc103 : c = 103
        · subst hc103
          go_enter Try.func50, Try.ntmps50
          go_wp2
          go_ret
          exact ⟨by first | rfl | (refine ret_bool ?_; simp [mfB, *]; done) | (refine ret_bool ?_; simp_all [mfB]; done) | (refine ret_bool ?_; rw [Bool.eq_iff_iff]; simp [mfB, h1]; done), belN1⟩
        · have gc103 : (c == 103) = false := beq_eq_false_iff_ne.2 hc103
          have nc103 : (c != 103) = true := by simpa using hc103
          go_enter Try.func50, Try.ntmps50
          go_wp2
          go_ret
          exact ⟨by first | rfl | (refine ret_bool ?_; simp [mfB, *]; done) | (refine ret_bool ?_; simp_all [mfB]; done) | (refine ret_bool ?_; rw [Bool.eq_iff_iff]; simp [mfB, h1]; done), belN1⟩
    · have gp108 : (p == 108) = false := beq_eq_false_iff_ne.2 hp108
      have np108 : (p != 108) = true := by simpa using hp108
      by_cases hp103 : p = 103
      · subst hp103
        by_cases hc103 : c = 103
        · subst hc103
          go_enter Try.func50, Try.ntmps50
          go_wp2
          go_ret
          exact ⟨by first | rfl | (refine ret_bool ?_; simp [mfB, *]; done) | (refine ret_bool ?_; simp_all [mfB]; done) | (refine ret_bool ?_; rw [Bool.eq_iff_iff]; simp [mfB, h1]; done), belN1⟩
        · have gc103 : (c == 103) = false := beq_eq_false_iff_ne.2 hc103
          have nc103 : (c != 103) = true := by simpa using hc103
          by_cases hc97 : c = 97
          · subst hc97
            by_cases ha : 0 < am
            · skip
              go_enter Try.func50, Try.ntmps50
              go_wp2
              go_ret
              exact ⟨by first | rfl | (refine ret_bool ?_; simp [mfB, *]; done) | (refine ret_bool ?_; simp_all [mfB]; done) | (refine ret_bool ?_; rw [Bool.eq_iff_iff]; simp [mfB, h1]; done), belN1⟩
            · skip
              go_enter Try.func50, Try.ntmps50
              go_wp2
              go_ret
              exact ⟨by first | rfl | (refine ret_bool ?_; simp [mfB, *]; done) | (refine ret_bool ?_; simp_all [mfB]; done) | (refine ret_bool ?_; rw [Bool.eq_iff_iff]; simp [mfB, h1]; done), belN1⟩
          · have gc97 : (c == 97) = false := beq_eq_false_iff_ne.2 hc97
            have nc97 : (c != 97) = true := by simpa using hc97
            by_cases hc114 : c = 114
            · subst hc114
              go_enter Try.func50, Try.ntmps50
              go_wp2
              go_ret
              exact ⟨by first | rfl | (refine ret_bool ?_; simp [mfB, *]; done) | (refine ret_bool ?_; simp_all [mfB]; done) | (refine ret_bool ?_; rw [Bool.eq_iff_iff]; simp [mfB, h1]; done), belN1⟩
            · have gc114 : (c == 114) = false := beq_eq_false_iff_ne.2 hc114
              have nc114 : (c != 114) = true := by simpa using hc114
              go_enter Try.func50, Try.ntmps50
              go_wp2
              go_ret
              exact ⟨by first | rfl | (refine ret_bool ?_; simp [mfB, *]; done) | (refine ret_bool ?_; simp_all [mfB]; done) | (refine ret_bool ?_; rw [Bool.eq_iff_iff]; simp [mfB, h1]; done), belN1⟩
      · have gp103 : (p == 103) = false := beq_eq_false_iff_ne.2 hp103
        have np103 : (p != 103) = true := by simpa using hp103
        by_cases hc97 : c = 97
        · subst hc97
          go_enter Try.func50, Try.ntmps50
          go_wp2
          go_ret
          exact ⟨by first | rfl | (refine ret_bool ?_; simp [mfB, *]; done) | (refine ret_bool ?_; simp_all [mfB]; done) | (refine ret_bool ?_; rw [Bool.eq_iff_iff]; simp [mfB, h1]; done), belN1⟩
        · have gc97 : (c == 97) = false := beq_eq_false_iff_ne.2 hc97
          have nc97 : (c != 97) = true := by simpa using hc97
          by_cases hc114 : c = 114
          · subst hc114
            go_enter Try.func50, Try.ntmps50
            go_wp2
            go_ret
            exact ⟨by first | rfl | (refine ret_bool ?_; simp [mfB, *]; done) | (refine ret_bool ?_; simp_all [mfB]; done) | (refine ret_bool ?_; rw [Bool.eq_iff_iff]; simp [mfB, h1]; done), belN1⟩
          · have gc114 : (c == 114) = false := beq_eq_false_iff_ne.2 hc114
            have nc114 : (c != 114) = true := by simpa using hc114
            go_enter Try.func50, Try.ntmps50
            go_wp2
            go_ret
            exact ⟨by first | rfl | (refine ret_bool ?_; simp [mfB, *]; done) | (refine ret_bool ?_; simp_all [mfB]; done) | (refine ret_bool ?_; rw [Bool.eq_iff_iff]; simp [mfB, h1]; done), belN1⟩

set_option maxRecDepth 100000 in
set_option maxHeartbeats 1000000 in
theorem leavesRed_any (t wc wl wf nc nl nf : Int) (w : World) : Calls Try.prog 59 #[.agg #[.int .i64 t, .int .u8 wc, .int .i64 wl, .int .i64 wf, .int .u8 nc, .int .i64 nl, .int .i64 nf]] w fun e w' => e = .returned (.bool (lvB ⟨t, ⟨wc, wl, wf⟩, ⟨nc, nl, nf⟩⟩)) ∧ Below w.heap.size w w' := by
  by_cases hwc114 : wc = 114
  · subst hwc114
    by_cases hnc114 : nc = 114
    · subst hnc114
      go_enter Try.func59, Try.ntmps59
      go_wp2
      go_ret
      exact ⟨by first | rfl | (refine ret_bool ?_; simp [lvB, *]; done) | (refine ret_bool ?_; simp_all [lvB]; done) | (refine ret_bool ?_; rw [Bool.eq_iff_iff]; simp [lvB, h1]; done), belN1⟩
    · have gnc114 : (nc == 114) = false := beq_eq_false_iff_ne.2 hnc114
      have nnc114 : (nc != 114) = true := by simpa using hnc114
      go_enter Try.func59, Try.ntmps59
      go_wp2
      go_ret
      exact ⟨by first | rfl | (refine ret_bool ?_; simp [lvB, *]; done) | (refine ret_bool ?_; simp_all [lvB]; done) | (refine ret_bool ?_; rw [Bool.eq_iff_iff]; simp [lvB, h1]; done), belN1⟩
  · have gwc114 : (wc == 114) = false := beq_eq_false_iff_ne.2 hwc114
    have nwc114 : (wc != 114) = true := by simpa using hwc114
    go_enter Try.func59, Try.ntmps59
    go_wp2
    go_ret
    exact ⟨by first | rfl | (refine ret_bool ?_; simp [lvB, *]; done) | (refine ret_bool ?_; simp_all [lvB]; done) | (refine ret_bool ?_; rw [Bool.eq_iff_iff]; simp [lvB, h1]; done), belN1⟩

set_option maxRecDepth 100000 in
set_option maxHeartbeats 1000000 in
theorem isShort_any (t wc wl wf nc nl nf c n : Int) (w : World) : Calls Try.prog 51 #[.agg #[.int .i64 t, .int .u8 wc, .int .i64 wl, .int .i64 wf, .int .u8 nc, .int .i64 nl, .int .i64 nf], .int .u8 c, .int .i64 n] w fun e w' => e = .returned (.bool (shB ⟨t, ⟨wc, wl, wf⟩, ⟨nc, nl, nf⟩⟩ c n)) ∧ Below w.heap.size w w' := by
  by_cases h1 : wc = c
  · have eh1 : (wc == c) = true := by simp [h1]
    have dh1 : (wc != c) = false := by simp [h1]
    by_cases h2 : nc = c
    · have eh2 : (nc == c) = true := by simp [h2]
      have dh2 : (nc != c) = false := by simp [h2]
      go_enter Try.func51, Try.ntmps51
      go_wp2
      go_ret
      exact ⟨by first | rfl | (refine ret_bool ?_; simp [shB, *]; done) | (refine ret_bool ?_; simp_all [shB]; done) | (refine ret_bool ?_; rw [Bool.eq_iff_iff]; simp [shB, h1]; done), belN1⟩
    · skip
      go_enter Try.func51, Try.ntmps51
      go_wp2
      go_ret
      exact ⟨by first | rfl | (refine ret_bool ?_; simp [shB, *]; done) | (refine ret_bool ?_; simp_all [shB]; done) | (refine ret_bool ?_; rw [Bool.eq_iff_iff]; simp [shB, h1]; done), belN1⟩
  · skip
    go_enter Try.func51, Try.ntmps51
    go_wp2
    go_ret
    exact ⟨by first | rfl | (refine ret_bool ?_; simp [shB, *]; done) | (refine ret_bool ?_; simp_all [shB]; done) | (refine ret_bool ?_; rw [Bool.eq_iff_iff]; simp [shB, h1]; done), belN1⟩

set_option maxRecDepth 100000 in
set_option maxHeartbeats 1000000 in
theorem isOver_any (t wc wl wf nc nl nf c n : Int) (w : World) (hn : 0 ≤ n ∧ n ≤ 3600) : Calls Try.prog 52 #[.agg #[.int .i64 t, .int .u8 wc, .int .i64 wl, .int .i64 wf, .int .u8 nc, .int .i64 nl, .int .i64 nf], .int .u8 c, .int .i64 n] w fun e w' => e = .returned (.bool (ovB ⟨t, ⟨wc, wl, wf⟩, ⟨nc, nl, nf⟩⟩ c n)) ∧ Below w.heap.size w w' := by
  have hw : IntKind.i64.wrap (n + 1) = n + 1 := wrap64 _ (by omega)
  by_cases h1 : nc = c
  · have eh1 : (nc == c) = true := by simp [h1]
    have dh1 : (nc != c) = false := by simp [h1]
    go_enter Try.func52, Try.ntmps52
    go_wp2
    go_ret
    exact ⟨by first | rfl | (refine ret_bool ?_; simp [ovB, *]; done) | (refine ret_bool ?_; simp_all [ovB]; done) | (refine ret_bool ?_; rw [Bool.eq_iff_iff]; simp [ovB, h1]; done), belN1⟩
  · skip
    go_enter Try.func52, Try.ntmps52
    go_wp2
    go_ret
    exact ⟨by first | rfl | (refine ret_bool ?_; simp [ovB, *]; done) | (refine ret_bool ?_; simp_all [ovB]; done) | (refine ret_bool ?_; rw [Bool.eq_iff_iff]; simp [ovB, h1]; done), belN1⟩

end Go.Proofs.Ytoaokpmnjppfcaa
