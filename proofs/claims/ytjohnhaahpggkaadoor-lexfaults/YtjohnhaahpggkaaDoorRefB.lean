import Derived.Test.YtjohnhaahpggkaaDoorRefA
namespace Go.Proofs.YtjohnhaahpggkaaDoor
open Go.RowKit
set_option linter.unusedVariables false

theorem slice_ok (s : ByteArray) (i n : Nat) (h : i + n ≤ s.size) (w : World) : Sem.run Tryd.prog (Instr.slice 9 (Value.string s) (some (Value.int IntKind.i64 (i : Int))) (some (Value.int IntKind.i64 ((i : Int) + (n : Int)))) none) w = .ok (.string (s.extract i (i + n))) w := by
  have h1 : ((i : Int) + (n : Int)) ≤ (s.size : Int) := by omega
  have h2 : ((i : Int) + (n : Int)).toNat = i + n := by omega
  have h3 : (0 : Int) ≤ (i : Int) + n := by omega
  simp [Instr.slice, Instr.sliceBounds, go_sem, h1, h2, h3]
theorem cells_drewN {w : World} (n : Nat) (p : Addr) : (w.drewN n).cell? p = w.cell? p := by
  induction n generalizing w with
  | zero => rfl
  | succ n ih => exact ih (w := w)
theorem St.drewN {w : World} (h : St w) (n : Nat) : St (w.drewN n) := ⟨by have := (bel_drewN (n := n) (Below.refl w.heap.size w)).size; exact Nat.lt_of_lt_of_le h.1 this, fun i hi => (cells_drewN n _).trans (h.2 i hi)⟩
theorem sign_two (s : ByteArray) (i : Nat) (hfit : i + 2 ≤ s.size) (h : sgK ((s.data.toList.drop i).take 2) ≠ -1) : signTk (s.data.toList.drop i) = (⟨sgK ((s.data.toList.drop i).take 2), 0, []⟩, 2) := by
  unfold signTk; rw [if_pos ⟨by simp; omega, h⟩]
theorem sign_one (s : ByteArray) (i : Nat) (h2 : i + 2 ≤ s.size → sgK ((s.data.toList.drop i).take 2) = -1) (h : sgK ((s.data.toList.drop i).take 1) ≠ -1) : signTk (s.data.toList.drop i) = (⟨sgK ((s.data.toList.drop i).take 1), 0, []⟩, 1) := by
  unfold signTk; rw [if_neg (fun c => c.2 (h2 (by have := c.1; simp at this; omega))), if_pos h]
theorem sign_none (s : ByteArray) (i : Nat) (h2 : i + 2 ≤ s.size → sgK ((s.data.toList.drop i).take 2) = -1) (h : sgK ((s.data.toList.drop i).take 1) = -1) : signTk (s.data.toList.drop i) = (⟨-1, 21, []⟩, 0) := by
  unfold signTk; rw [if_neg (fun c => c.2 (h2 (by have := c.1; simp at this; omega))), if_neg (by simp [h])]

set_option maxRecDepth 100000 in
set_option maxHeartbeats 8000000 in
theorem one_sign (s : ByteArray) (i : Nat) (w : World) (hs : s.size < 4611686018427387904) (hi : i < s.size) (hSt : St w) (hL : isL s[i] = false) (hD : isD s[i] = false) :
    Calls Tryd.prog 47 #[.string s, .int .i64 i] w fun e w' => (∃ tk en er, e = .returned (.tuple #[tokV tk 0 0, .int .i64 en, .int .i64 er]) ∧ OneRes (firstTk (s.data.toList.drop i)) i tk en er) ∧ Below w.heap.size w w' := by
  have hT : firstTk (s.data.toList.drop i) = signTk (s.data.toList.drop i) := by
    have := first_S s[i] (s.data.toList.drop (i + 1)) hL hD
    rw [← drop_head s i hi] at this; exact this
  have hRE := fun w => runEnd_any s i w hs (by omega)
  have hLt := fun w => letter_any s[i] w
  have hDg := fun w => digit_any s[i] w
  rw [hL] at hLt
  rw [hD] at hDg
  clear hL hD
  go_enter Tryd.func47, Tryd.ntmps47
  go_wp2_with (first
    | (go_at_call 25; (with_reducible refine (hRE _).mono ?_); rintro e w1 ⟨rfl, hwe⟩; subst hwe)
    | (go_at_call 26; (with_reducible refine (hLt _).mono ?_); rintro e w1 ⟨rfl, hwe⟩; subst hwe)
    | (go_at_call 40; (with_reducible refine (hDg _).mono ?_); rintro e w1 ⟨rfl, hwe⟩; subst hwe))
  go_loopw [13] (fun tl wr => ∃ (Q : Int), tl = .int .i64 Q ∧ Has wr w.heap.size #[.int .i64 0, .int .i32 0, .string ⟨#[]⟩, .int .i64 0, .int .i64 0] ∧ St wr ∧ Below w.heap.size w wr ∧ (Q = 2 ∨ (Q = 1 ∧ (i + 2 ≤ s.size → sgK ((s.data.toList.drop i).take 2) = -1)) ∨ (Q = 0 ∧ (i + 2 ≤ s.size → sgK ((s.data.toList.drop i).take 2) = -1) ∧ sgK ((s.data.toList.drop i).take 1) = -1))) (fun tl _ => (intOf tl).toNat)
  case atStart => exact ⟨2, rfl, Has.new _ _ _ rfl, hSt.below ((Below.refl w.heap.size w).alloc (Nat.le_refl _) _) hSt.1, (Below.refl _ _).alloc (Nat.le_refl _) _, .inl rfl⟩
  case round =>
    obtain ⟨Q, rfl, hHw, hSw, hBw, hQ⟩ := hrel
    rcases hQ with rfl | ⟨rfl, h2⟩ | ⟨rfl, h2, h1⟩
    · skip
      have hwp : IntKind.i64.wrap ((i : Int) + 2) = (i : Int) + 2 := by rw [IntKind.wrap_i64]; omega
      have hNfit : ∀ X : List UInt8, X.length = 2 → i + 2 ≤ s.size → ((s.extract i (i + 2)).toList == (bs X).toList) = decide (X = (s.data.toList.drop i).take 2) := by
        intro X _ hf
        rw [bs_toList, Lib.toList_data, Lib.extract_data]
        have e : i + 2 - i = 2 := by omega
        rw [e]
        by_cases h : X = (s.data.toList.drop i).take 2
        · rw [h]; simp
        · simp [h]; exact fun c => h c.symm
      go_wp2
      go_loopw [14] (fun tk wr => ∃ k : Nat, k ≤ 18 ∧ tk = .int .i64 (k : Int) ∧ (i + 2 ≤ s.size → look (sgL.drop k) ((s.data.toList.drop i).take 2) (k + 60) = sgK ((s.data.toList.drop i).take 2)) ∧ Has wr w.heap.size #[.int .i64 0, .int .i32 0, .string ⟨#[]⟩, .int .i64 0, .int .i64 0] ∧ St wr ∧ Below w.heap.size w wr) (fun tk _ => 18 - (intOf tk).toNat)
      case atStart => exact ⟨0, by omega, rfl, fun _ => rfl, hHw, hSw, hBw⟩
      case round =>
        clear hHw hSw hBw
        obtain ⟨k, hk, rfl, hl, hHw, hSw, hBw⟩ := hrel
        have HL : Hid (i + 2 ≤ s.size → look (sgL.drop k) ((s.data.toList.drop i).take 2) (k + 60) = sgK ((s.data.toList.drop i).take 2)) := hl
        clear hl
        obtain ⟨z0, Z1, z2⟩ := id hHw
        by_cases hlt : k < 18
        · have hc := hSw.2 k hlt
          have hsh := sgL_shape (sgL.getD k []) (by simp [List.getD, show k < sgL.length from hlt])
          have HS : Hid (look (sgL.drop k) ((s.data.toList.drop i).take 2) (k + 60) = _) := look_drop sgL ((s.data.toList.drop i).take 2) k (k + 60) hlt
          have hbz : ((bs (sgL.getD k [])).size : Int) = ((sgL.getD k []).length : Int) := by unfold bs; simp [ByteArray.size]
          have hNX := hNfit (sgL.getD k [])
          have hlenT : i + 2 ≤ s.size → ((s.data.toList.drop i).take 2).length = 2 := by intro h; simp; omega
          generalize sgL.getD k [] = X at *
          have k1 : (k : Int) < 18 := by omega
          have hgo : X ≠ (s.data.toList.drop i).take 2 ∨ ¬ i + 2 ≤ s.size → (i + 2 ≤ s.size → look (sgL.drop (k + 1)) ((s.data.toList.drop i).take 2) (k + 1 + 60) = sgK ((s.data.toList.drop i).take 2)) := by
            intro h hf
            have hne : ¬ X = (s.data.toList.drop i).take 2 := by
              rcases h with h | h
              · exact h
              · exact absurd hf h
            rw [← HL.out hf, HS.out, if_neg hne]
          by_cases hXn : X.length = 2
          · have hXn' : ((bs X).size : Int) = 2 := by rw [hbz, hXn]; rfl
            by_cases hfit : i + 2 ≤ s.size
            · have hfit' : (i : Int) + 2 ≤ (s.size : Int) := by omega
              have hsl : ∀ w, Sem.run Tryd.prog (Instr.slice 9 (Value.string s) (some (Value.int IntKind.i64 (i : Int))) (some (Value.int IntKind.i64 ((i : Int) + 2))) none) w = .ok (.string (s.extract i (i + 2))) w := fun w => slice_ok s i 2 hfit w
              have hq := hNX hXn hfit
              by_cases he : X = (s.data.toList.drop i).take 2
              · rw [show decide (X = (s.data.toList.drop i).take 2) = true by simpa using he] at hq
                have HO : Hid (OneRes (firstTk (s.data.toList.drop i)) i ⟨60 + (k : Int), 0, []⟩ ((i : Int) + 2) 0) := by
                  have e : sgK ((s.data.toList.drop i).take 2) = 60 + (k : Int) := by rw [← HL.out hfit, HS.out, if_pos he]; omega
                  show OneRes _ _ _ _ _
                  rw [hT, sign_two s i hfit (by omega), e]
                  exact ⟨fun _ => ⟨rfl, by simp only; omega, rfl⟩, fun h => by simp only at h; omega⟩
                clear hNX hlenT hbz hsh he HL HS hgo hNfit
                go_wp2
                go_quiet ((rw [hsl]; exact ⟨rfl, rfl⟩))
                have hHq := hHw.drewN nq
                obtain ⟨y0, Y1, y2⟩ := id hHq
                go_wp2
                obtain ⟨x0, X1, x2⟩ := hHq.set5 (.int .i64 (60 + (k : Int))) (.int .i32 0) (.string ⟨#[]⟩) (.int .i64 0) (.int .i64 0)
                exact bodyPost_ret (v := .tuple #[.agg #[.int .i64 (60 + (k : Int)), .int .i32 0, .string ⟨#[]⟩, .int .i64 0, .int .i64 0], .int .i64 ((i : Int) + 2), .int .i64 0]) (by simp [results, Tryd.results47, go_sem, X1]) rfl ⟨⟨⟨60 + (k : Int), 0, []⟩, (i : Int) + 2, 0, rfl, HO.out⟩, bel5 (bel_drewN hBw) (Nat.le_refl _) _ _ _ _ _⟩
              · rw [show decide (X = (s.data.toList.drop i).take 2) = false by simpa using he] at hq
                have HG := hid_of (hgo (.inl he))
                clear hNX hlenT hbz hsh he HL HS hgo hNfit
                go_wp2
                go_quiet ((rw [hsl]; exact ⟨rfl, rfl⟩))
                go_wp2
                go_roundw
                case rel => exact ⟨k + 1, by omega, by go_num, HG.out, hHw.drewN _, hSw.drewN _, bel_drewN hBw⟩
                case measure => simp [intOf]; omega
            · have HG := hid_of (hgo (.inr hfit))
              have hfit' : decide ((i : Int) + 2 ≤ (s.size : Int)) = false := by simp; omega
              clear hNX hlenT hbz hsh HL HS hgo hNfit hfit
              go_wp2
              go_quiet (fail)
              go_wp2
              go_roundw
              case rel => exact ⟨k + 1, by omega, by go_num, HG.out, hHw.drewN _, hSw.drewN _, bel_drewN hBw⟩
              case measure => simp [intOf]; omega
          · have HG : Hid (i + 2 ≤ s.size → look (sgL.drop (k + 1)) ((s.data.toList.drop i).take 2) (k + 1 + 60) = sgK ((s.data.toList.drop i).take 2)) := fun hf => hgo (.inl (fun h => hXn (by rw [h]; exact hlenT hf))) hf
            have hXn' : (((bs X).size : Int) == 2) = false := by rw [hbz]; simp; omega
            clear hNX hlenT hbz hsh HL HS hgo hNfit hXn
            go_wp2
            go_quiet (fail)
            go_wp2
            go_roundw
            case rel => exact ⟨k + 1, by omega, by go_num, HG.out, hHw.drewN _, hSw.drewN _, bel_drewN hBw⟩
            case measure => simp [intOf]; omega
        · have HE : Hid (i + 2 ≤ s.size → sgK ((s.data.toList.drop i).take 2) = -1) := fun hf => by
            rw [← HL.out hf, look_end sgL _ _ _ (by have : sgL.length = 18 := rfl; omega)]
          have k2 : ¬ (k : Int) < 18 := by omega
          clear HL
          go_wp2
          go_roundw
          case rel => exact ⟨1, rfl, hHw, hSw, hBw, .inr (.inl ⟨rfl, HE.out⟩)⟩
          case measure => simp [intOf]
    · have H2 := hid_of h2
      clear h2
      have hwp : IntKind.i64.wrap ((i : Int) + 1) = (i : Int) + 1 := by rw [IntKind.wrap_i64]; omega
      have hNfit : ∀ X : List UInt8, X.length = 1 → i + 1 ≤ s.size → ((s.extract i (i + 1)).toList == (bs X).toList) = decide (X = (s.data.toList.drop i).take 1) := by
        intro X _ hf
        rw [bs_toList, Lib.toList_data, Lib.extract_data]
        have e : i + 1 - i = 1 := by omega
        rw [e]
        by_cases h : X = (s.data.toList.drop i).take 1
        · rw [h]; simp
        · simp [h]; exact fun c => h c.symm
      go_wp2
      go_loopw [14] (fun tk wr => ∃ k : Nat, k ≤ 18 ∧ tk = .int .i64 (k : Int) ∧ (i + 1 ≤ s.size → look (sgL.drop k) ((s.data.toList.drop i).take 1) (k + 60) = sgK ((s.data.toList.drop i).take 1)) ∧ Has wr w.heap.size #[.int .i64 0, .int .i32 0, .string ⟨#[]⟩, .int .i64 0, .int .i64 0] ∧ St wr ∧ Below w.heap.size w wr) (fun tk _ => 18 - (intOf tk).toNat)
      case atStart => exact ⟨0, by omega, rfl, fun _ => rfl, hHw, hSw, hBw⟩
      case round =>
        clear hHw hSw hBw
        obtain ⟨k, hk, rfl, hl, hHw, hSw, hBw⟩ := hrel
        have HL : Hid (i + 1 ≤ s.size → look (sgL.drop k) ((s.data.toList.drop i).take 1) (k + 60) = sgK ((s.data.toList.drop i).take 1)) := hl
        clear hl
        obtain ⟨z0, Z1, z2⟩ := id hHw
        by_cases hlt : k < 18
        · have hc := hSw.2 k hlt
          have hsh := sgL_shape (sgL.getD k []) (by simp [List.getD, show k < sgL.length from hlt])
          have HS : Hid (look (sgL.drop k) ((s.data.toList.drop i).take 1) (k + 60) = _) := look_drop sgL ((s.data.toList.drop i).take 1) k (k + 60) hlt
          have hbz : ((bs (sgL.getD k [])).size : Int) = ((sgL.getD k []).length : Int) := by unfold bs; simp [ByteArray.size]
          have hNX := hNfit (sgL.getD k [])
          have hlenT : i + 1 ≤ s.size → ((s.data.toList.drop i).take 1).length = 1 := by intro h; simp; omega
          generalize sgL.getD k [] = X at *
          have k1 : (k : Int) < 18 := by omega
          have hgo : X ≠ (s.data.toList.drop i).take 1 ∨ ¬ i + 1 ≤ s.size → (i + 1 ≤ s.size → look (sgL.drop (k + 1)) ((s.data.toList.drop i).take 1) (k + 1 + 60) = sgK ((s.data.toList.drop i).take 1)) := by
            intro h hf
            have hne : ¬ X = (s.data.toList.drop i).take 1 := by
              rcases h with h | h
              · exact h
              · exact absurd hf h
            rw [← HL.out hf, HS.out, if_neg hne]
          by_cases hXn : X.length = 1
          · have hXn' : ((bs X).size : Int) = 1 := by rw [hbz, hXn]; rfl
            by_cases hfit : i + 1 ≤ s.size
            · have hfit' : (i : Int) + 1 ≤ (s.size : Int) := by omega
              have hsl : ∀ w, Sem.run Tryd.prog (Instr.slice 9 (Value.string s) (some (Value.int IntKind.i64 (i : Int))) (some (Value.int IntKind.i64 ((i : Int) + 1))) none) w = .ok (.string (s.extract i (i + 1))) w := fun w => slice_ok s i 1 hfit w
              have hq := hNX hXn hfit
              by_cases he : X = (s.data.toList.drop i).take 1
              · rw [show decide (X = (s.data.toList.drop i).take 1) = true by simpa using he] at hq
                have HO : Hid (OneRes (firstTk (s.data.toList.drop i)) i ⟨60 + (k : Int), 0, []⟩ ((i : Int) + 1) 0) := by
                  have e : sgK ((s.data.toList.drop i).take 1) = 60 + (k : Int) := by rw [← HL.out hfit, HS.out, if_pos he]; omega
                  show OneRes _ _ _ _ _
                  rw [hT, sign_one s i H2.out (by omega), e]
                  exact ⟨fun _ => ⟨rfl, by simp only; omega, rfl⟩, fun h => by simp only at h; omega⟩
                clear hNX hlenT hbz hsh he HL HS hgo hNfit
                go_wp2
                go_quiet ((rw [hsl]; exact ⟨rfl, rfl⟩))
                have hHq := hHw.drewN nq
                obtain ⟨y0, Y1, y2⟩ := id hHq
                go_wp2
                obtain ⟨x0, X1, x2⟩ := hHq.set5 (.int .i64 (60 + (k : Int))) (.int .i32 0) (.string ⟨#[]⟩) (.int .i64 0) (.int .i64 0)
                exact bodyPost_ret (v := .tuple #[.agg #[.int .i64 (60 + (k : Int)), .int .i32 0, .string ⟨#[]⟩, .int .i64 0, .int .i64 0], .int .i64 ((i : Int) + 1), .int .i64 0]) (by simp [results, Tryd.results47, go_sem, X1]) rfl ⟨⟨⟨60 + (k : Int), 0, []⟩, (i : Int) + 1, 0, rfl, HO.out⟩, bel5 (bel_drewN hBw) (Nat.le_refl _) _ _ _ _ _⟩
              · rw [show decide (X = (s.data.toList.drop i).take 1) = false by simpa using he] at hq
                have HG := hid_of (hgo (.inl he))
                clear hNX hlenT hbz hsh he HL HS hgo hNfit
                go_wp2
                go_quiet ((rw [hsl]; exact ⟨rfl, rfl⟩))
                go_wp2
                go_roundw
                case rel => exact ⟨k + 1, by omega, by go_num, HG.out, hHw.drewN _, hSw.drewN _, bel_drewN hBw⟩
                case measure => simp [intOf]; omega
            · exact absurd (by omega) hfit
          · have HG : Hid (i + 1 ≤ s.size → look (sgL.drop (k + 1)) ((s.data.toList.drop i).take 1) (k + 1 + 60) = sgK ((s.data.toList.drop i).take 1)) := fun hf => hgo (.inl (fun h => hXn (by rw [h]; exact hlenT hf))) hf
            have hXn' : (((bs X).size : Int) == 1) = false := by rw [hbz]; simp; omega
            clear hNX hlenT hbz hsh HL HS hgo hNfit hXn
            go_wp2
            go_quiet (fail)
            go_wp2
            go_roundw
            case rel => exact ⟨k + 1, by omega, by go_num, HG.out, hHw.drewN _, hSw.drewN _, bel_drewN hBw⟩
            case measure => simp [intOf]; omega
        · have HE : Hid (i + 1 ≤ s.size → sgK ((s.data.toList.drop i).take 1) = -1) := fun hf => by
            rw [← HL.out hf, look_end sgL _ _ _ (by have : sgL.length = 18 := rfl; omega)]
          have k2 : ¬ (k : Int) < 18 := by omega
          clear HL
          go_wp2
          go_roundw
          case rel => exact ⟨0, rfl, hHw, hSw, hBw, .inr (.inr ⟨rfl, H2.out, HE.out (by omega)⟩)⟩
          case measure => simp [intOf]
    · have HO : Hid (OneRes (firstTk (s.data.toList.drop i)) i ⟨0, 0, []⟩ i 21) := by
        show OneRes _ _ _ _ _
        rw [hT, sign_none s i h2 h1]
        exact ⟨fun h => absurd rfl h, fun _ => ⟨rfl, by omega⟩⟩
      clear h2 h1
      obtain ⟨y0, Y1, y2⟩ := id hHw
      go_wp2
      obtain ⟨x0, X1, x2⟩ := hHw.set5 (.int .i64 0) (.int .i32 0) (.string ⟨#[]⟩) (.int .i64 0) (.int .i64 0)
      exact bodyPost_ret (v := .tuple #[.agg #[.int .i64 0, .int .i32 0, .string ⟨#[]⟩, .int .i64 0, .int .i64 0], .int .i64 i, .int .i64 21]) (by simp [results, Tryd.results47, go_sem, X1]) rfl ⟨⟨⟨0, 0, []⟩, i, 21, rfl, HO.out⟩, bel5 hBw (Nat.le_refl _) _ _ _ _ _⟩
end Go.Proofs.YtjohnhaahpggkaaDoor
