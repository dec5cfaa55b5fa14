import Derived.Test.YtiaklfjpmmifjaaHs
import Derived.Test.YtiaklfjpmmifjaaOpT
import Derived.Test.YtiaklfjpmmifjaaRoS
namespace Go.Proofs.Ytiaklfjpmmifjaa
open Go.RowKit
set_option linter.unusedVariables false


theorem wf64 {n : Int} (h : (Lit.int .i64 n).wf = true) : -9223372036854775808 ≤ n ∧ n ≤ 9223372036854775807 := by
  simp [Lit.wf, IntKind.min, IntKind.max, IntKind.bits, IntKind.signed] at h
  omega

set_option maxRecDepth 100000 in
set_option maxHeartbeats 4000000 in
theorem clash_any (n : Nat) (M : Nat) (C : List Cf) (va : Option Addr) (cap0 : Nat) (vc : Value) (w : World) (hM : M < 18446744073709551616) (hn : n ≤ 2932031007317) (h : Fl 4 Cf.cs w vc C) (hl : C.length ≤ 4398046511000) (ok : ∀ (i : Nat) (h : i < C.length), C[i].ok) :
    Calls Try.prog 12 #[.agg #[.slice va n cap0, vc], .int .u64 (M : Int)] w fun e w' => e = .returned (.tuple #[.int .i64 (clashF n M C).1, .int .i64 (clashF n M C).2.1, .bool (clashF n M C).2.2]) ∧ Below w.heap.size w w' := by
  obtain ⟨vb, cap, rfl, hk⟩ := h.any
  clear h
  generalize hA : clashF n M C = A
  have B0 : Has (w.alloc (.cells #[.slice va n cap0, .slice vb C.length cap] 25)) w.heap.size #[.slice va n cap0, .slice vb C.length cap] := Has.new _ _ _ rfl
  have hb0 : Below w.heap.size w (w.alloc (.cells #[.slice va n cap0, .slice vb C.length cap] 25)) := belN1
  have hMl : M &&& (2 ^ min n 64 - 1) < 18446744073709551616 := Nat.lt_of_le_of_lt Nat.and_le_left hM
  have hMa : bits .and .u64 (M : Int) ((2 ^ min n 64 - 1 : Nat) : Int) = ((M &&& (2 ^ min n 64 - 1) : Nat) : Int) := bits_and_u64_nat _ _ hM (allOf_lt n)
  have hN := fun g => hasN_and M n g
  have hAl := fun (W : World) => allOf_any n va cap0 W hn
  generalize 2 ^ min n 64 - 1 = Al at *
  generalize M &&& Al = M' at *
  go_enter Try.func12, Try.ntmps12
  go_wp2_with (go_at_call 25; (with_reducible refine Calls.mono (hAl _) ?_); rintro e w2 ⟨rfl, rfl⟩)
  clear hAl
  generalize (w.alloc (.cells #[.slice va n cap0, .slice vb C.length cap] 25)) = W0 at *
  go_loopw [17] (fun t wr => ∃ k : Nat, k ≤ C.length ∧ t = .int .i64 (k : Int) ∧ Hid (clashF n M (C.drop k) = A) ∧ Hid (Has wr w.heap.size #[.slice va n cap0, .slice vb C.length cap]) ∧ Hid (Below w.heap.size w wr)) (fun t _ => C.length - (intOf t).toNat)
  case atStart => exact ⟨0, by omega, rfl, hA, B0, hb0⟩
  case round =>
    clear B0 hb0
    obtain ⟨k, hkl, rfl, hs, B, hb⟩ := hrel
    obtain ⟨_, b1, _⟩ := id B.out
    by_cases hlt : k < C.length
    · obtain ⟨g, o, rfl, hg, P⟩ := hk.resolve_left (by intro e; rw [e] at hlt; simp at hlt)
      have p0 := (hb.out.cell (p := ⟨g, _, none⟩) hg).trans (P k hlt 0 _ rfl)
      have p1 := (hb.out.cell (p := ⟨g, _, none⟩) hg).trans (P k hlt 1 _ rfl)
      have p2 := (hb.out.cell (p := ⟨g, _, none⟩) hg).trans (P k hlt 2 _ rfl)
      have p3 := (hb.out.cell (p := ⟨g, _, none⟩) hg).trans (P k hlt 3 _ rfl)
      simp only [Nat.add_zero] at p0
      have hstep := clashF_step n M C k hlt
      rw [hs.out] at hstep
      obtain ⟨r1, r2, _, _⟩ := ok k hlt
      have ra := wf64 r1
      have rb := wf64 r2
      unfold hit at hstep
      generalize C[k].a = xa at *
      generalize C[k].b = xb at *
      generalize C[k].ab = xab at *
      generalize C[k].ba = xba at *
      have t1 : (k : Int) < (C.length : Int) := by omega
      have t0 : (0 : Int) ≤ (k : Int) := by omega
      have t2 : k + 1 ≤ C.length := hlt
      clear P hk hs ok r1 r2
      have hbN : Below w.heap.size w (wr.alloc (.cells #[.int .i64 xa, .int .i64 xb, .int .i64 xab, .int .i64 xba] 47)) := hb.out.alloc hb.out.size _
      have BN := B.out.alloc (.cells #[.int .i64 xa, .int .i64 xb, .int .i64 xab, .int .i64 xba] 47)
      have hHa := fun (W : World) => hasS_any M' xa W hMl ra
      have hHb := fun (W : World) => hasS_any M' xb W hMl rb
      rw [← hN xa, ← hN xb] at hstep
      cases ea : hasN M' xa with
      | true =>
        rw [ea] at hHa
        cases eb : hasN M' xb with
        | true =>
          rw [eb] at hHb
          have hA' : A = (xa, xb, true) := by rw [hstep, ea, eb]; rfl
          subst hA'
          clear hstep
          go_wp2_with (first | (go_at_call 26; (with_reducible refine Calls.mono (hHa _) ?_); rintro e w2 ⟨rfl, rfl⟩) | (go_at_call 26; (with_reducible refine Calls.mono (hHb _) ?_); rintro e w2 ⟨rfl, rfl⟩))
          go_quiet (fail)
          go_wp2
          exact bodyPost_ret (v := .tuple #[.int .i64 xa, .int .i64 xb, .bool true]) (by simp [results, Try.results12, go_sem]) rfl ⟨rfl, bel_drewN hbN⟩
        | false =>
          rw [eb] at hHb
          have hs' : Hid (clashF n M (C.drop (k + 1)) = A) := by show _ = _; rw [hstep, ea, eb]; simp
          clear hstep
          go_wp2_with (first | (go_at_call 26; (with_reducible refine Calls.mono (hHa _) ?_); rintro e w2 ⟨rfl, rfl⟩) | (go_at_call 26; (with_reducible refine Calls.mono (hHb _) ?_); rintro e w2 ⟨rfl, rfl⟩))
          go_roundw
          case rel => exact ⟨k + 1, by omega, by go_num, hs', BN, hbN⟩
          case measure => simp [intOf]; omega
      | false =>
        rw [ea] at hHa
        clear hHb
        have hs' : Hid (clashF n M (C.drop (k + 1)) = A) := by show _ = _; rw [hstep, ea]; simp
        clear hstep
        go_wp2_with (first | (go_at_call 26; (with_reducible refine Calls.mono (hHa _) ?_); rintro e w2 ⟨rfl, rfl⟩) | (go_at_call 26; (with_reducible refine Calls.mono (hHb _) ?_); rintro e w2 ⟨rfl, rfl⟩))
        go_roundw
        case rel => exact ⟨k + 1, by omega, by go_num, hs', BN, hbN⟩
        case measure => simp [intOf]; omega

    · have t1 : ¬ (k : Int) < (C.length : Int) := by omega
      have hA' : A = (-1, -1, false) := by rw [← hs.out]; exact clashF_end n M C k (by omega)
      subst hA'
      clear hs
      go_wp2
      exact bodyPost_ret (v := .tuple #[.int .i64 (-1), .int .i64 (-1), .bool false]) (by simp [results, Try.results12, go_sem]) rfl ⟨rfl, hb.out⟩
end Go.Proofs.Ytiaklfjpmmifjaa
