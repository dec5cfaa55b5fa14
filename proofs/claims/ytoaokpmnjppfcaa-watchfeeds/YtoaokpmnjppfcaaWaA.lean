import Derived.Test.YtoaokpmnjppfcaaWaM
namespace Go.Proofs.Ytoaokpmnjppfcaa
open Go.RowKit
set_option linter.unusedVariables false
set_option linter.unusedSimpArgs false

set_option maxRecDepth 100000 in
theorem isAlarm_any (k t a b : Int) (w : World) : Calls Try.prog 25 #[.agg #[.int .i64 k, .int .i64 t, .int .i64 a, .int .i64 b]] w fun e w' => e = .returned (.bool (!decide (k = 0))) ∧ Below w.heap.size w w' := by
  by_cases h : k = 0
  · subst h
    go_enter Try.func25, Try.ntmps25
    go_wp2
    go_ret
    exact ⟨rfl, belN1⟩
  · have h' : (k != 0) = true := by simpa using h
    have e : (!decide (k = 0)) = true := by simp [h]
    rw [e]
    go_enter Try.func25, Try.ntmps25
    go_wp2
    go_ret
    exact ⟨by first | rfl | exact ret_bool h', belN1⟩

set_option maxRecDepth 100000 in
theorem isLetter_any (c : Int) (w : World) : Calls Try.prog 48 #[.int .u8 c] w fun e w' => e = .returned (.bool (letB c)) ∧ w' = w := by
  by_cases h1 : c = 114
  · subst h1
    go_enter Try.func48, Try.ntmps48
    go_wp2
    go_ret
    exact ⟨rfl, rfl⟩
  · have g1 : (c == 114) = false := beq_eq_false_iff_ne.2 h1
    by_cases h2 : c = 108
    · subst h2
      go_enter Try.func48, Try.ntmps48
      go_wp2
      go_ret
      exact ⟨rfl, rfl⟩
    · have g2 : (c == 108) = false := beq_eq_false_iff_ne.2 h2
      by_cases h3 : c = 103
      · subst h3
        go_enter Try.func48, Try.ntmps48
        go_wp2
        go_ret
        exact ⟨rfl, rfl⟩
      · have g3 : (c == 103) = false := beq_eq_false_iff_ne.2 h3
        have e : letB c = decide (c = 97) := by simp [letB, h1, h2, h3]
        rw [e]
        by_cases h4 : c = 97
        · subst h4
          go_enter Try.func48, Try.ntmps48
          go_wp2
          go_ret
          exact ⟨rfl, rfl⟩
        · have g4 : (c == 97) = false := beq_eq_false_iff_ne.2 h4
          have e4 : decide (c = 97) = false := by simp [h4]
          rw [e4]
          go_enter Try.func48, Try.ntmps48
          go_wp2
          go_ret
          exact ⟨by first | rfl | exact ret_bool g4, rfl⟩

theorem orL_skip {x : Int} {r : List Int} (h : x = 0) : orL (x :: r) = orL r := by simp [orL, h]
theorem orL_take {x : Int} {r : List Int} (h : x ≠ 0) : orL (x :: r) = x := by simp [orL, h]
set_option maxRecDepth 100000 in
theorem orN_any (L : List Int) (b : Nat) (w : World) (hL : L.length ≤ 4) (h : ∀ i (hi : i < L.length), w.cell? ⟨b, i, none⟩ = some (.int .i64 L[i])) :
    Calls Try.prog 41 #[.slice (some ⟨b, 0, none⟩) L.length L.length] w fun e w' => e = .returned (.int .i64 (orL L)) ∧ w' = w := by
  generalize hA : orL L = A
  have hA' : Hid (orL L = A) := hA
  clear hA
  obtain ⟨n, hn⟩ : ∃ n, L.length = n := ⟨_, rfl⟩
  rw [hn]
  have hn' : Hid (L.length = n) := hn
  have hL4 : n ≤ 4 := by omega
  clear hn hL
  go_enter Try.func41, Try.ntmps41
  go_wp2
  go_loopg [8] n (fun gk t wr => ∃ k : Nat, k + gk = n ∧ t = .int .i64 (k : Int) ∧ wr = w ∧ Hid (orL (L.drop k) = A))
  case atStart => exact ⟨0, by omega, rfl, rfl, by have := hA'.out; show _ = _; simpa using this⟩
  case round =>
    obtain ⟨k, hk, rfl, rfl, hx⟩ := hrel
    cases gk with
    | zero =>
      have e : (0 : Int) = A := by have := hx.out; rw [List.drop_eq_nil_of_le (by have := hn'.out; omega)] at this; exact this
      obtain rfl : k = n := by omega
      go_wp2
      go_ret
      exact ⟨ret_int e, rfl⟩
    | succ g =>
      have hkn : k < n := by omega
      have hkl : k < L.length := by have := hn'.out; omega
      have hc := h k hkl
      have hd : L.drop k = L[k] :: L.drop (k + 1) := List.drop_eq_getElem_cons hkl
      generalize hv : L[k] = v at hc hd
      by_cases e : v = 0
      · subst e
        have hx' : Hid (orL (L.drop (k + 1)) = A) := by have := hx.out; rw [hd, orL_skip rfl] at this; exact this
        clear hd hv h
        go_wp2
        go_roundg g
        case measure => omega
        case rel => exact ⟨k + 1, by omega, by push_cast; rfl, rfl, hx'⟩
      · have e' : (v != 0) = true := by simpa using e
        have hx' : v = A := by have := hx.out; rw [hd, orL_take e] at this; exact this
        clear hd hv h
        go_wp2
        go_ret
        exact ⟨by first | rfl | exact ret_int hx', rfl⟩
end Go.Proofs.Ytoaokpmnjppfcaa
