import Derived.Test.YtjohnhaahpggkabDoorWrdD
namespace Go.Proofs.YtjohnhaahpggkabDoor
open Go.RowKit
set_option linter.unusedVariables false

theorem isR_of_L {c : UInt8} (h : isL c = true) : isR c = true := by rw [isR_iff, h]; rfl
theorem isR_of_D {c : UInt8} (h : isD c = true) : isR c = true := by rw [isR_iff, h]; simp
theorem kw_letter (c : UInt8) (r : List UInt8) (h : isL c = false) : kwK (c :: r) = -1 := by
  rcases kwK_mem (c :: r) with h1 | ⟨_, _, h3⟩
  · exact h1.1
  · have := (kwL_shape _ h3).2.2
    rw [List.all_cons, h] at this; simp at this
theorem sg_run (c : UInt8) (r : List UInt8) (h : isR c = true) : sgK (c :: r) = -1 := by
  rcases sgK_mem (c :: r) with h1 | ⟨_, _, h3⟩
  · exact h1.1
  · have := (sgL_shape _ h3).2
    rw [List.all_cons, h] at this; simp at this
theorem sg_long (l : List UInt8) (h : 2 < l.length) : sgK l = -1 := by
  rcases sgK_mem l with h1 | ⟨_, _, h3⟩
  · exact h1.1
  · have := (sgL_shape _ h3).1; omega
theorem kw_all (l : List UInt8) (h : l.all isR = false) : kwK l = -1 := by
  rcases kwK_mem l with h1 | ⟨_, _, h3⟩
  · exact h1.1
  · have h4 := (kwL_shape _ h3).2.2
    have : l.all isR = true := List.all_eq_true.2 (fun x hx => isR_of_L (List.all_eq_true.1 h4 x hx))
    rw [this] at h; cases h
theorem kw_long (l : List UInt8) (h : 32 < l.length) : kwK l = -1 := by
  rcases kwK_mem l with h1 | ⟨_, _, h3⟩
  · exact h1.1
  · have := (kwL_shape _ h3).1; omega
theorem run_whole (l : List UInt8) (h : (runL l).length = l.length) : runL l = l :=
  (List.takeWhile_prefix isR).eq_of_length h

theorem first_L (c : UInt8) (r : List UInt8) (h : isL c = true) : firstTk (c :: r) = (wordTk (runL (c :: r)), (runL (c :: r)).length) := by
  unfold firstTk
  rw [if_neg (by simp), if_pos (show isL ((c :: r).headD 0) = true from h)]
theorem first_D (c : UInt8) (r : List UInt8) (hL : isL c = false) (h : isD c = true) : firstTk (c :: r) = (numTk (runL (c :: r)), (runL (c :: r)).length) := by
  unfold firstTk
  rw [if_neg (by simp), if_neg (show ¬ isL ((c :: r).headD 0) = true by simp [hL]), if_pos (show isD ((c :: r).headD 0) = true from h)]
theorem first_S (c : UInt8) (r : List UInt8) (hL : isL c = false) (h : isD c = false) : firstTk (c :: r) = signTk (c :: r) := by
  unfold firstTk
  rw [if_neg (by simp), if_neg (show ¬ isL ((c :: r).headD 0) = true by simp [hL]), if_neg (show ¬ isD ((c :: r).headD 0) = true by simp [h])]

theorem kind_first (l : List UInt8) : kindL l = if l = [] ∨ (firstTk l).2 ≠ l.length then -1 else (firstTk l).1.kind := by
  cases l with
  | nil => decide
  | cons c r =>
    have hne : ¬ (c :: r = []) := by simp
    have hall := all_run (c :: r)
    by_cases hL : isL c = true
    · rw [first_L c r hL]
      simp only [hne, false_or]
      have hsg := sg_run c r (isR_of_L hL)
      by_cases hlen : (runL (c :: r)).length = (c :: r).length
      · rw [if_neg (by simp [hlen]), run_whole _ hlen]
        have hall' : (c :: r).all isR = true := by rw [hall]; simpa using hlen
        unfold kindL wordTk restK
        rw [hsg, hall']
        by_cases h32 : 32 < (c :: r).length
        · rw [kw_long _ h32]; simp only [if_pos h32]; simp [hL]
        · by_cases hk : kwK (c :: r) = -1
          · rw [hk]; simp only [if_neg h32]; simp [hL]
          · simp only [if_neg h32, if_neg hk]; simp [hk]
      · rw [if_pos hlen]
        have hall' : (c :: r).all isR = false := by rw [hall]; simpa using hlen
        unfold kindL restK
        rw [hsg, kw_all _ hall', hall']; simp
    · have hLf : isL c = false := by simpa using hL
      have hkw := kw_letter c r hLf
      by_cases hD : isD c = true
      · rw [first_D c r hLf hD]
        simp only [hne, false_or]
        have hsg := sg_run c r (isR_of_D hD)
        by_cases hlen : (runL (c :: r)).length = (c :: r).length
        · rw [if_neg (by simp [hlen]), run_whole _ hlen]
          have hall' : (c :: r).all isR = true := by rw [hall]; simpa using hlen
          unfold kindL restK numTk
          rw [hsg, hkw, hall']
          by_cases hE : numE (numOf (c :: r)) = 0
          · simp [hLf, hE]
          · simp [hLf, hE]
        · rw [if_pos hlen]
          have hall' : (c :: r).all isR = false := by rw [hall]; simpa using hlen
          unfold kindL restK
          rw [hsg, hkw, hall']; simp
      · have hDf : isD c = false := by simpa using hD
        rw [first_S c r hLf hDf]
        simp only [hne, false_or]
        have hrest : restK (c :: r) = -1 := by
          unfold restK
          by_cases ha : (c :: r).all isR = false
          · rw [if_pos (.inr ha)]
          · rw [if_neg (by simp only [hne, false_or]; exact ha)]
            simp only [List.headD_cons, hLf]
            have : numE (numOf (c :: r)) ≠ 0 := by
              have : numOf (c :: r) = none := by unfold numOf; simp [hDf]
              rw [this]; decide
            simp [this]
        have hk : kindL (c :: r) = sgK (c :: r) := by
          unfold kindL
          rw [hkw, hrest]
          by_cases h : sgK (c :: r) = -1
          · simp [h]
          · simp [h]
        rw [hk]
        cases r with
        | nil =>
          have hs : signTk [c] = if sgK [c] ≠ -1 then (⟨sgK [c], 0, []⟩, 1) else (⟨-1, 21, []⟩, 0) := by
            unfold signTk; rw [if_neg (by simp)]; rfl
          rw [hs]
          by_cases h : sgK [c] = -1
          · rw [if_neg (c := sgK [c] ≠ -1) (by simp [h])]; simp [h]
          · rw [if_pos (c := sgK [c] ≠ -1) h]; simp
        | cons d r =>
          cases r with
          | nil =>
            have hs : signTk [c, d] = if sgK [c, d] ≠ -1 then (⟨sgK [c, d], 0, []⟩, 2) else if sgK [c] ≠ -1 then (⟨sgK [c], 0, []⟩, 1) else (⟨-1, 21, []⟩, 0) := by
              unfold signTk
              by_cases h : sgK [c, d] = -1
              · rw [if_neg (fun x => x.2 h), if_neg (c := sgK [c, d] ≠ -1) (by simp [h])]; rfl
              · rw [if_pos ⟨by simp, h⟩, if_pos (c := sgK [c, d] ≠ -1) h]; rfl
            rw [hs]
            by_cases h : sgK [c, d] = -1
            · rw [if_neg (c := sgK [c, d] ≠ -1) (by simp [h])]
              by_cases h1 : sgK [c] = -1
              · rw [if_neg (c := sgK [c] ≠ -1) (by simp [h1])]; simp [h]
              · rw [if_pos (c := sgK [c] ≠ -1) h1]; simp [h]
            · rw [if_pos (c := sgK [c, d] ≠ -1) h]; simp
          | cons e r =>
            have hle : (signTk (c :: d :: e :: r)).2 ≤ 2 := by
              unfold signTk
              split
              · simp
              · split <;> simp
            rw [sg_long _ (by simp), if_pos]
            intro h; rw [h] at hle; simp at hle

set_option maxRecDepth 100000 in
set_option maxHeartbeats 2000000 in
theorem firstToken_any (s : ByteArray) (w : World) (hs : s.size < 4611686018427387904) (hW : Wt w) :
    Calls Tryd.prog 35 #[.string s] w fun e w' => e = .returned (.tuple #[tokV (firstTk s.data.toList).1 0 0, .int .i64 ((firstTk s.data.toList).2 : Nat)]) ∧ Below w.heap.size w w' := by
  by_cases h0 : s.size = 0
  · have he : s = ⟨#[]⟩ := by
      obtain ⟨⟨l⟩⟩ := s
      have : l = [] := by apply List.eq_nil_of_length_eq_zero; exact h0
      subst this; rfl
    subst he
    have e1 : (firstTk (ByteArray.mk #[]).data.toList) = (⟨0, 0, []⟩, 0) := rfl
    rw [e1, tokV_eq, bs_nil]
    clear e1 h0 hs hW
    go_enter Tryd.func35, Tryd.ntmps35
    go_wp2
    exact bodyPost_ret (v := .tuple #[.agg #[.int .i64 0, .int .i32 0, .string ⟨#[]⟩, .int .i64 0, .int .i64 0], .int .i64 0]) (by simp [results, Tryd.results35, go_sem]) rfl ⟨rfl, (Below.refl _ _).alloc (Nat.le_refl _) _⟩
  · have h1 : 0 < s.size := by omega
    have hl := list_cons s h1
    have hne : s.toList.isEmpty = false := by rw [Lib.toList_data, hl]; rfl
    have hLt := fun w => isLetter_any s[0] w
    have hDg := fun w => isDigit_any s[0] w
    have hFr := fun w => firstRun_any s w hs
    have hrun : (s.extract 0 (rEnd s 0)).data.toList = runL s.data.toList := by rw [rEnd_run]; simp
    have hrs : (s.extract 0 (rEnd s 0)).size = (runL s.data.toList).length := by rw [← hrun]; simp
    have hle := rEnd_le s 0 (by omega)
    have hrsz : (s.extract 0 (rEnd s 0)).size < 4611686018427387904 := by simp; omega
    have hWa := hW.below ((Below.refl w.heap.size w).alloc (Nat.le_refl _) (.cells #[.int .i64 0, .int .i32 0, .string ⟨#[]⟩, .int .i64 0, .int .i64 0] 27)) hW.1
    cases hL : isL s[0] with
    | true =>
      have e1 : firstTk s.data.toList = (wordTk (runL s.data.toList), (runL s.data.toList).length) := by rw [hl]; exact first_L _ _ hL
      rw [hL] at hLt
      rw [e1]
      have hWt := wordToken_any (s.extract 0 (rEnd s 0)) _ hrsz hWa
      rw [hrun] at hWt
      rw [← hrs]
      clear e1 hl hrun hrs hL hle
      generalize wordTk (runL s.data.toList) = T at hWt ⊢
      generalize s.extract 0 (rEnd s 0) = X at *
      obtain ⟨k, n, x⟩ := T
      rw [tokV_eq] at hWt ⊢
      generalize bs x = B at hWt ⊢
      go_enter Tryd.func35, Tryd.ntmps35
      go_wp2_with (first
        | (go_at_call 43; (with_reducible refine (hLt _).mono ?_); rintro e w1 ⟨rfl, hwe⟩; subst hwe)
        | (go_at_call 44; (with_reducible refine (hFr _).mono ?_); rintro e w1 ⟨rfl, hwe⟩; subst hwe)
        | (go_at_call 45; (with_reducible refine hWt.mono ?_); rintro e w2 ⟨rfl, hb2⟩; have hX2 := (Has.new w #[.int .i64 0, .int .i32 0, .string ⟨#[]⟩, .int .i64 0, .int .i64 0] 27 rfl).below hb2; obtain ⟨x0, X1, x2⟩ := id hX2))
      obtain ⟨y0, Y1, y2⟩ := hX2.set5 (.int .i64 k) (.int .i32 n) (.string B) (.int .i64 0) (.int .i64 0)
      exact bodyPost_ret (v := .tuple #[.agg #[.int .i64 k, .int .i32 n, .string B, .int .i64 0, .int .i64 0], .int .i64 X.size]) (by simp [results, Tryd.results35, go_sem, Y1]) rfl ⟨rfl, bel5 (((Below.refl _ _).alloc (Nat.le_refl _) _).trans (hb2.mono (by simp))) (Nat.le_refl _) _ _ _ _ _⟩
    | false =>
      rw [hL] at hLt
      cases hD : isD s[0] with
      | true =>
        have e1 : firstTk s.data.toList = (numTk (runL s.data.toList), (runL s.data.toList).length) := by rw [hl]; exact first_D _ _ hL hD
        rw [hD] at hDg
        rw [e1]
        have hWt := fun w => numberToken_any (s.extract 0 (rEnd s 0)) w hrsz
        rw [hrun] at hWt
        rw [← hrs]
        clear e1 hl hrun hrs hL hD hle
        generalize numTk (runL s.data.toList) = T at hWt ⊢
        generalize s.extract 0 (rEnd s 0) = X at *
        obtain ⟨k, n, x⟩ := T
        rw [tokV_eq] at hWt ⊢
        generalize bs x = B at hWt ⊢
        go_enter Tryd.func35, Tryd.ntmps35
        go_wp2_with (first
          | (go_at_call 43; (with_reducible refine (hLt _).mono ?_); rintro e w1 ⟨rfl, hwe⟩; subst hwe)
          | (go_at_call 46; (with_reducible refine (hDg _).mono ?_); rintro e w1 ⟨rfl, hwe⟩; subst hwe)
          | (go_at_call 44; (with_reducible refine (hFr _).mono ?_); rintro e w1 ⟨rfl, hwe⟩; subst hwe)
          | (go_at_call 47; (with_reducible refine (hWt _).mono ?_); rintro e w2 ⟨rfl, hb2⟩; have hX2 := (Has.new w #[.int .i64 0, .int .i32 0, .string ⟨#[]⟩, .int .i64 0, .int .i64 0] 27 rfl).below hb2; obtain ⟨x0, X1, x2⟩ := id hX2))
        obtain ⟨y0, Y1, y2⟩ := hX2.set5 (.int .i64 k) (.int .i32 n) (.string B) (.int .i64 0) (.int .i64 0)
        exact bodyPost_ret (v := .tuple #[.agg #[.int .i64 k, .int .i32 n, .string B, .int .i64 0, .int .i64 0], .int .i64 X.size]) (by simp [results, Tryd.results35, go_sem, Y1]) rfl ⟨rfl, bel5 (((Below.refl _ _).alloc (Nat.le_refl _) _).trans (hb2.mono (by simp))) (Nat.le_refl _) _ _ _ _ _⟩
      | false =>
        have e1 : firstTk s.data.toList = signTk s.data.toList := by
          have := first_S s[0] (s.data.toList.drop 1) hL hD
          rw [← hl] at this; exact this
        rw [hD] at hDg
        rw [e1]
        have hWt := signToken_any s _ hs h1 hWa
        clear e1 hl hrun hrs hL hD hle
        generalize signTk s.data.toList = T at hWt ⊢
        obtain ⟨⟨k, n, x⟩, z⟩ := T
        simp only at hWt ⊢
        rw [tokV_eq] at hWt ⊢
        generalize bs x = B at hWt ⊢
        go_enter Tryd.func35, Tryd.ntmps35
        go_wp2_with (first
          | (go_at_call 43; (with_reducible refine (hLt _).mono ?_); rintro e w1 ⟨rfl, hwe⟩; subst hwe)
          | (go_at_call 46; (with_reducible refine (hDg _).mono ?_); rintro e w1 ⟨rfl, hwe⟩; subst hwe)
          | (go_at_call 48; (with_reducible refine hWt.mono ?_); rintro e w2 ⟨rfl, hb2⟩; have hX2 := (Has.new w #[.int .i64 0, .int .i32 0, .string ⟨#[]⟩, .int .i64 0, .int .i64 0] 27 rfl).below hb2; obtain ⟨x0, X1, x2⟩ := id hX2))
        obtain ⟨y0, Y1, y2⟩ := hX2.set5 (.int .i64 k) (.int .i32 n) (.string B) (.int .i64 0) (.int .i64 0)
        exact bodyPost_ret (v := .tuple #[.agg #[.int .i64 k, .int .i32 n, .string B, .int .i64 0, .int .i64 0], .int .i64 z]) (by simp [results, Tryd.results35, go_sem, Y1]) rfl ⟨rfl, bel5 (((Below.refl _ _).alloc (Nat.le_refl _) _).trans (hb2.mono (by simp))) (Nat.le_refl _) _ _ _ _ _⟩
end Go.Proofs.YtjohnhaahpggkabDoor
