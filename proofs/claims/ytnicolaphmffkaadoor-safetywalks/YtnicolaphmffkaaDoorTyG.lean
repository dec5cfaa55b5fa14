import Derived.Test.YtnicolaphmffkaaDoorTyD
import Derived.Test.YtnicolaphmffkaaDoorTyF
namespace Go.Proofs.YtnicolaphmffkaaDoor
open Go.RowKit
set_option linter.unusedVariables false
set_option linter.unusedSimpArgs false

/-- May operands of those types stand there? -/
def tkF (T a : Int) (l : List Int) : Bool := l.all fun x => decide ((T = 0 ∨ x = T) ∧ x = a)
theorem tk_end (T a : Int) (l : List Int) (k : Nat) (h : l.length ≤ k) : tkF T a (l.drop k) = true := by
  rw [List.drop_eq_nil_of_le h]; rfl
theorem tk_on (T a : Int) (l : List Int) (k : Nat) (h : k < l.length) : tkF T a (l.drop k) = (decide ((T = 0 ∨ l[k] = T) ∧ l[k] = a) && tkF T a (l.drop (k + 1))) := by
  rw [List.drop_eq_getElem_cons h]; unfold tkF; rw [List.all_cons]
theorem tk_one (op a : Int) (h : opB op) (h2 : op < 30) : resF op a 0 = if tkF (ruT op) a [a] = true then ruI op else 0 := by
  have : op = 20 ∨ op = 21 ∨ op = 22 := by unfold opB at h; omega
  rcases this with rfl | rfl | rfl
  all_goals
    unfold resF tkF ruT ruI
    simp
theorem tk_two (op a b : Int) (h : opB op) (h2 : 30 ≤ op) : resF op a b = if tkF (ruT op) a [a, b] = true then ruI op else 0 := by
  have : (30 ≤ op ∧ op ≤ 36) ∨ (42 ≤ op ∧ op ≤ 45) ∨ op = 40 ∨ op = 41 ∨ op = 50 ∨ op = 51 := by unfold opB at h; omega
  rcases this with ⟨g1, g2⟩ | ⟨g1, g2⟩ | rfl | rfl | rfl | rfl
  · rw [show ruT op = 1 from by unfold ruT; rw [if_neg (by omega), if_neg (by omega), if_neg (by omega)], show ruI op = 1 from by unfold ruI; rw [if_neg (by omega), if_pos (by omega)]]
    unfold resF tkF
    rw [if_neg (by omega), if_neg (by omega), if_pos ⟨g1, g2⟩]
    by_cases c1 : a = 1 <;> by_cases c2 : b = 1 <;> simp_all
  · rw [show ruT op = 1 from by unfold ruT; rw [if_neg (by omega), if_neg (by omega), if_neg (by omega)], show ruI op = 2 from by unfold ruI; rw [if_neg (by omega), if_neg (by omega)]]
    unfold resF tkF
    rw [if_neg (by omega), if_neg (by omega), if_neg (by omega), if_neg (by omega), if_pos ⟨g1, g2⟩]
    by_cases c1 : a = 1 <;> by_cases c2 : b = 1 <;> simp_all
  · unfold resF tkF ruT ruI
    by_cases c1 : a = b
    · subst c1; simp
    · have c2 : ¬ b = a := fun q => c1 q.symm
      simp [c1, c2]
  · unfold resF tkF ruT ruI
    by_cases c1 : a = b
    · subst c1; simp
    · have c2 : ¬ b = a := fun q => c1 q.symm
      simp [c1, c2]
  · unfold resF tkF ruT ruI
    by_cases c1 : a = 2 <;> by_cases c2 : b = 2 <;> simp_all
  · unfold resF tkF ruT ruI
    by_cases c1 : a = 2 <;> by_cases c2 : b = 2 <;> simp_all
set_option maxRecDepth 100000 in
set_option maxHeartbeats 8000000 in
theorem takes_any (O T I : Int) (l : List Int) (g o sc : Nat) (w : World) (h0 : 0 < l.length) (hl : l.length ≤ 256) (hg : g < w.heap.size) (hc : ∀ i (h : i < l.length), w.cell? ⟨g, o + i, none⟩ = some (.int .i64 l[i])) :
    Calls Tryd.prog 70 #[.agg #[.int .i64 O, .int .i64 T, .int .i64 I], .slice (some ⟨g, o, none⟩) l.length sc] w fun e w' => e = .returned (.bool (tkF T l[0] l)) ∧ Below w.heap.size w w' := by
  generalize hA : tkF T l[0] l = A
  have hA0 : tkF T l[0] (l.drop 0) = A := hA
  clear hA
  have hb0 : Below w.heap.size w (w.alloc (.cells #[.int .i64 O, .int .i64 T, .int .i64 I] 137)) := bel1 _
  have K0 : Has (w.alloc (.cells #[.int .i64 O, .int .i64 T, .int .i64 I] 137)) w.heap.size #[.int .i64 O, .int .i64 T, .int .i64 I] := Has.new _ _ _ rfl
  have f0 := hc 0 h0
  simp only [Nat.add_zero] at f0
  generalize l[0] = a at *
  go_enter Tryd.func70, Tryd.ntmps70
  go_wp2_with fail
  generalize w.alloc (.cells #[.int .i64 O, .int .i64 T, .int .i64 I] 137) = W0 at *
  go_loopw [9] (fun i wr => ∃ k : Nat, k ≤ l.length ∧ i = .int .i64 (k : Int) ∧ Hid (tkF T a (l.drop k) = A) ∧ Hid (Below W0.heap.size W0 wr)) (fun i _ => l.length - (intOf i).toNat)
  case atStart => exact ⟨0, by omega, rfl, hA0, Below.refl _ _⟩
  case round =>
    clear hA0
    obtain ⟨k, hkl, rfl, hq', hb'⟩ := hrel
    have hq := hq'.out
    have hb := hb'.out
    clear hq' hb'
    have hbw := bel_after hb0 hb0.size hb
    by_cases hlt : k < l.length
    case neg =>
      have s1 : ¬ (k : Int) < (l.length : Int) := by omega
      rw [tk_end T a l k (by omega)] at hq
      subst hq
      go_wp2_with fail
      go_ret
      exact ⟨rfl, hbw⟩
    case pos =>
      have s1 : (k : Int) < (l.length : Int) := by omega
      have s0 : (0 : Int) ≤ (k : Int) := by omega
      have s2 : (0 : Int) < (l.length : Int) := by omega
      have p0 := (hbw.cell (p := ⟨g, _, none⟩) hg).trans f0
      have p1 := (hbw.cell (p := ⟨g, _, none⟩) hg).trans (hc k hlt)
      have K1 := K0.below hb
      obtain ⟨_, q1, _⟩ := id K1
      rw [tk_on T a l k hlt] at hq
      clear hc f0
      generalize l[k] = x at *
      by_cases c0 : T = 0
      · subst c0
        by_cases c2 : x = a
        · subst c2
          have e1 : decide (((0 : Int) = 0 ∨ x = 0) ∧ x = x) = true := by simp
          rw [e1, Bool.true_and] at hq
          clear e1
          go_wp2_with fail
          go_roundw
          case rel => exact ⟨k + 1, by omega, by go_num, hq, hb⟩
          case measure => simp [intOf]; omega
        · have n2 : (x == a) = false := by simpa using c2
          rw [decide_eq_false (fun q => c2 q.2), Bool.false_and] at hq
          subst hq
          go_wp2_with fail
          go_ret
          exact ⟨rfl, hbw⟩
      · have n0 : (T == 0) = false := by simpa using c0
        by_cases c1 : x = T
        · subst c1
          by_cases c2 : x = a
          · subst c2
            have e1 : decide ((x = 0 ∨ x = x) ∧ x = x) = true := by simp
            rw [e1, Bool.true_and] at hq
            clear e1
            go_wp2_with fail
            go_roundw
            case rel => exact ⟨k + 1, by omega, by go_num, hq, hb⟩
            case measure => simp [intOf]; omega
          · have n2 : (x == a) = false := by simpa using c2
            rw [decide_eq_false (fun q => c2 q.2), Bool.false_and] at hq
            subst hq
            go_wp2_with fail
            go_ret
            exact ⟨rfl, hbw⟩
        · have n1 : (x == T) = false := by simpa using c1
          rw [decide_eq_false (fun q => q.1.elim c0 c1), Bool.false_and] at hq
          subst hq
          go_wp2_with fail
          go_ret
          exact ⟨rfl, hbw⟩
end Go.Proofs.YtnicolaphmffkaaDoor
