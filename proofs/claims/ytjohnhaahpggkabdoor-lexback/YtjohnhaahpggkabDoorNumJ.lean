import Derived.Test.YtjohnhaahpggkabDoorNumI
namespace Go.Proofs.YtjohnhaahpggkabDoor
open Go.RowKit
set_option linter.unusedVariables false

set_option maxRecDepth 100000 in
set_option maxHeartbeats 8000000 in
theorem duration_any (s : ByteArray) (w : World) (hs : s.size < 4611686018427387904) (hne : 0 < s.size) :
    Calls Tryd.prog 52 #[.string s] w fun e w' => (∃ (v : Nat) (ok : Bool), e = .returned (.tuple #[.int .i64 v, .bool ok]) ∧ v ≤ 1099511627776 ∧ DurRes (durOf hms s.data.toList) ok v) ∧ Below w.heap.size w w' := by
  have hD : Hid (DurI (durOf hms s.data.toList) (hms.drop 0) s 0 0) := ⟨0, Cl.zero, by simp⟩
  generalize durOf hms s.data.toList = R at hD ⊢
  go_enter Tryd.func52, Tryd.ntmps52
  go_wp2
  go_loopw [6, 7, 8] (fun tn ti tk wr => ∃ (k i n : Nat) (K : Int), K = k ∧ k ≤ 3 ∧ i ≤ s.size ∧ n ≤ 1099511627776 ∧ tn = .int .i64 n ∧ ti = .int .i64 i ∧ tk = .int .i64 K ∧ Has wr w.heap.size #[.int .i64 3600, .int .i64 60, .int .i64 1] ∧ Below w.heap.size w wr ∧ DurI R (hms.drop k) s i n) (fun _ _ tk _ => 3 - (intOf tk).toNat)
  case atStart => exact ⟨0, 0, 0, 0, rfl, by omega, by omega, by omega, rfl, rfl, rfl, Has.new _ _ _ rfl, (Below.refl _ _).alloc (Nat.le_refl _) _, hD.out⟩
  case round =>
    obtain ⟨k, i, n, K, hK, hk, hi, hn, rfl, rfl, rfl, hH, hB, hd⟩ := hrel
    obtain ⟨x0, X1, x2⟩ := id hH
    have hk' : (k = 0 ∧ K = 0) ∨ (k = 1 ∧ K = 1) ∨ (k = 2 ∧ K = 2) ∨ (k = 3 ∧ K = 3) := by omega
    clear hK
    rcases hk' with ⟨rfl, rfl⟩ | ⟨rfl, rfl⟩ | ⟨rfl, rfl⟩ | ⟨rfl, rfl⟩
    · have HD0 : Hid (DurI R ((104, 3600) :: hms.drop 1) s i n) := hd
      clear hd
      go_wp2
      go_loop [9] (fun tj => ∃ q : Nat, i ≤ q ∧ q ≤ s.size ∧ tj = .int .i64 q ∧ ∀ j (hj : j < s.size), i ≤ j → j < q → isD s[j] = true) (fun tj => s.size - (intOf tj).toNat)
      case atStart => exact ⟨i, Nat.le_refl _, hi, rfl, fun j hj h1 h2 => by omega⟩
      case round =>
        obtain ⟨q, hiq, hq, rfl, hall⟩ := hrel
        have HA : Hid (∀ j (hj : j < s.size), i ≤ j → j < q → isD s[j] = true) := hall
        clear hall
        by_cases hlt : q < s.size
        · have hDg := fun w => digit_any s[q] w
          by_cases hdq : isD s[q] = true
          · have HQ : Hid (isD s[q] = true) := hdq
            rw [hdq] at hDg
            clear hdq
            go_wp2_with (go_at_call 59; with_reducible refine (hDg _).mono ?_; rintro e w' ⟨rfl, hwe⟩; subst hwe)
            go_round
            case rel => exact ⟨q + 1, by omega, by omega, by go_num, fun j hj h1 h2 => by
              by_cases e : j = q
              · subst e; exact HQ.out
              · exact HA.out j hj h1 (by omega)⟩
            case measure => simp [intOf]; omega
          · have hf : isD s[q] = false := by simpa using hdq
            have HQ : Hid (isD s[q] = false) := hf
            rw [hf] at hDg
            clear hdq hf
            by_cases hiq2 : i < q
            · have hiq2' : (i : Int) < (q : Int) := by omega
              by_cases hu : (s[q].toNat : Int) = 104
              · have hue : s[q] = 104 := by apply UInt8.toNat_inj.1; show s[q].toNat = 104; omega
                have hok := digits_all s i q hiq2 hq HA.out
                have hDs := fun w => digits10 (s.extract i q) false w (by simp; omega)
                rw [hok] at hDs
                have HT : Hid (∀ d n', DigRes true (valD 10 0 (s.extract i q).data.toList) 1099511627776 d → n' = min (n + d * 3600) 1099511627776 → DurI R (hms.drop 1) s (q + 1) n') := fun d n' h1 h2 => HD0.out.take hiq2 hlt HA.out (by decide) hue (by omega) (h1.1 rfl) h2
                simp only [hu] at hDg
                clear hok hue
                generalize valD 10 0 (s.extract i q).data.toList = X at hDs HT
                go_wp2_with (go_at_call 59; with_reducible refine (hDg _).mono ?_; rintro e w' ⟨rfl, hwe⟩; subst hwe)
                go_quiet (fail)
                have hHq := hH.drewN nq
                have hBq := bel_drewN (n := nq) hB
                obtain ⟨y0, Y1, y2⟩ := id hHq
                go_wp2_with (go_at_call 51; with_reducible refine (hDs _).mono ?_; rintro e w2 ⟨⟨d, rfl, hdr⟩, hwe⟩; subst hwe; have hd2 := DigRes.le hdr; have HR := hid_of hdr; clear hdr)
                · go_roundw
                  case rel => exact ⟨1, q + 1, 1099511627776, 1, by omega, by omega, by omega, by omega, by go_num, by go_num, by go_num, hHq, hBq, HT.out d _ HR.out (by omega)⟩
                  case measure => simp [intOf]
                · go_roundw
                  case rel => exact ⟨1, q + 1, n + d * 3600, 1, by omega, by omega, by omega, by omega, by go_num, by go_num, by go_num, hHq, hBq, HT.out d _ HR.out (by omega)⟩
                  case measure => simp [intOf]
              · have hbyte : ((ByteArray.mk #[104, 109, 115])[0]'(by decide)).toNat = 104 := rfl
                have HS : Hid (DurI R (hms.drop 1) s i n) := HD0.out.skip hiq hq HA.out (.inr ⟨hlt, HQ.out⟩) (.inr (.inr ⟨hlt, fun e => hu (by rw [e]; rfl)⟩))
                go_wp2_with (go_at_call 59; with_reducible refine (hDg _).mono ?_; rintro e w' ⟨rfl, hwe⟩; subst hwe)
                go_quiet (fail)
                go_wp2
                go_roundw
                case rel => exact ⟨1, i, n, 1, by omega, by omega, hi, hn, rfl, rfl, by go_num, hH.drewN _, bel_drewN hB, HS.out⟩
                case measure => simp [intOf]
            · have hiq2' : ¬ (i : Int) < (q : Int) := by omega
              have HS : Hid (DurI R (hms.drop 1) s i n) := HD0.out.skip hiq hq HA.out (.inr ⟨hlt, HQ.out⟩) (.inl (by omega))
              go_wp2_with (go_at_call 59; with_reducible refine (hDg _).mono ?_; rintro e w' ⟨rfl, hwe⟩; subst hwe)
              go_quiet (fail)
              go_wp2
              go_roundw
              case rel => exact ⟨1, i, n, 1, by omega, by omega, hi, hn, rfl, rfl, by go_num, hH.drewN _, bel_drewN hB, HS.out⟩
              case measure => simp [intOf]
        · have HS : Hid (DurI R (hms.drop 1) s i n) := HD0.out.skip hiq hq HA.out (.inl (by omega)) (.inr (.inl (by omega)))
          have hlt' : ¬ (q : Int) < (s.size : Int) := by omega
          by_cases hiq2 : i < q
          · have hiq2' : (i : Int) < (q : Int) := by omega
            go_wp2
            go_quiet (fail)
            go_wp2
            go_roundw
            case rel => exact ⟨1, i, n, 1, by omega, by omega, hi, hn, rfl, rfl, by go_num, hH.drewN _, bel_drewN hB, HS.out⟩
            case measure => simp [intOf]
          · have hiq2' : ¬ (i : Int) < (q : Int) := by omega
            go_wp2
            go_quiet (fail)
            go_wp2
            go_roundw
            case rel => exact ⟨1, i, n, 1, by omega, by omega, hi, hn, rfl, rfl, by go_num, hH.drewN _, bel_drewN hB, HS.out⟩
            case measure => simp [intOf]
    · have HD0 : Hid (DurI R ((109, 60) :: hms.drop 2) s i n) := hd
      clear hd
      go_wp2
      go_loop [9] (fun tj => ∃ q : Nat, i ≤ q ∧ q ≤ s.size ∧ tj = .int .i64 q ∧ ∀ j (hj : j < s.size), i ≤ j → j < q → isD s[j] = true) (fun tj => s.size - (intOf tj).toNat)
      case atStart => exact ⟨i, Nat.le_refl _, hi, rfl, fun j hj h1 h2 => by omega⟩
      case round =>
        obtain ⟨q, hiq, hq, rfl, hall⟩ := hrel
        have HA : Hid (∀ j (hj : j < s.size), i ≤ j → j < q → isD s[j] = true) := hall
        clear hall
        by_cases hlt : q < s.size
        · have hDg := fun w => digit_any s[q] w
          by_cases hdq : isD s[q] = true
          · have HQ : Hid (isD s[q] = true) := hdq
            rw [hdq] at hDg
            clear hdq
            go_wp2_with (go_at_call 59; with_reducible refine (hDg _).mono ?_; rintro e w' ⟨rfl, hwe⟩; subst hwe)
            go_round
            case rel => exact ⟨q + 1, by omega, by omega, by go_num, fun j hj h1 h2 => by
              by_cases e : j = q
              · subst e; exact HQ.out
              · exact HA.out j hj h1 (by omega)⟩
            case measure => simp [intOf]; omega
          · have hf : isD s[q] = false := by simpa using hdq
            have HQ : Hid (isD s[q] = false) := hf
            rw [hf] at hDg
            clear hdq hf
            by_cases hiq2 : i < q
            · have hiq2' : (i : Int) < (q : Int) := by omega
              by_cases hu : (s[q].toNat : Int) = 109
              · have hue : s[q] = 109 := by apply UInt8.toNat_inj.1; show s[q].toNat = 109; omega
                have hok := digits_all s i q hiq2 hq HA.out
                have hDs := fun w => digits10 (s.extract i q) false w (by simp; omega)
                rw [hok] at hDs
                have HT : Hid (∀ d n', DigRes true (valD 10 0 (s.extract i q).data.toList) 1099511627776 d → n' = min (n + d * 60) 1099511627776 → DurI R (hms.drop 2) s (q + 1) n') := fun d n' h1 h2 => HD0.out.take hiq2 hlt HA.out (by decide) hue (by omega) (h1.1 rfl) h2
                simp only [hu] at hDg
                clear hok hue
                generalize valD 10 0 (s.extract i q).data.toList = X at hDs HT
                go_wp2_with (go_at_call 59; with_reducible refine (hDg _).mono ?_; rintro e w' ⟨rfl, hwe⟩; subst hwe)
                go_quiet (fail)
                have hHq := hH.drewN nq
                have hBq := bel_drewN (n := nq) hB
                obtain ⟨y0, Y1, y2⟩ := id hHq
                go_wp2_with (go_at_call 51; with_reducible refine (hDs _).mono ?_; rintro e w2 ⟨⟨d, rfl, hdr⟩, hwe⟩; subst hwe; have hd2 := DigRes.le hdr; have HR := hid_of hdr; clear hdr)
                · go_roundw
                  case rel => exact ⟨2, q + 1, 1099511627776, 2, by omega, by omega, by omega, by omega, by go_num, by go_num, by go_num, hHq, hBq, HT.out d _ HR.out (by omega)⟩
                  case measure => simp [intOf]
                · go_roundw
                  case rel => exact ⟨2, q + 1, n + d * 60, 2, by omega, by omega, by omega, by omega, by go_num, by go_num, by go_num, hHq, hBq, HT.out d _ HR.out (by omega)⟩
                  case measure => simp [intOf]
              · have hbyte : ((ByteArray.mk #[104, 109, 115])[1]'(by decide)).toNat = 109 := rfl
                have HS : Hid (DurI R (hms.drop 2) s i n) := HD0.out.skip hiq hq HA.out (.inr ⟨hlt, HQ.out⟩) (.inr (.inr ⟨hlt, fun e => hu (by rw [e]; rfl)⟩))
                go_wp2_with (go_at_call 59; with_reducible refine (hDg _).mono ?_; rintro e w' ⟨rfl, hwe⟩; subst hwe)
                go_quiet (fail)
                go_wp2
                go_roundw
                case rel => exact ⟨2, i, n, 2, by omega, by omega, hi, hn, rfl, rfl, by go_num, hH.drewN _, bel_drewN hB, HS.out⟩
                case measure => simp [intOf]
            · have hiq2' : ¬ (i : Int) < (q : Int) := by omega
              have HS : Hid (DurI R (hms.drop 2) s i n) := HD0.out.skip hiq hq HA.out (.inr ⟨hlt, HQ.out⟩) (.inl (by omega))
              go_wp2_with (go_at_call 59; with_reducible refine (hDg _).mono ?_; rintro e w' ⟨rfl, hwe⟩; subst hwe)
              go_quiet (fail)
              go_wp2
              go_roundw
              case rel => exact ⟨2, i, n, 2, by omega, by omega, hi, hn, rfl, rfl, by go_num, hH.drewN _, bel_drewN hB, HS.out⟩
              case measure => simp [intOf]
        · have HS : Hid (DurI R (hms.drop 2) s i n) := HD0.out.skip hiq hq HA.out (.inl (by omega)) (.inr (.inl (by omega)))
          have hlt' : ¬ (q : Int) < (s.size : Int) := by omega
          by_cases hiq2 : i < q
          · have hiq2' : (i : Int) < (q : Int) := by omega
            go_wp2
            go_quiet (fail)
            go_wp2
            go_roundw
            case rel => exact ⟨2, i, n, 2, by omega, by omega, hi, hn, rfl, rfl, by go_num, hH.drewN _, bel_drewN hB, HS.out⟩
            case measure => simp [intOf]
          · have hiq2' : ¬ (i : Int) < (q : Int) := by omega
            go_wp2
            go_quiet (fail)
            go_wp2
            go_roundw
            case rel => exact ⟨2, i, n, 2, by omega, by omega, hi, hn, rfl, rfl, by go_num, hH.drewN _, bel_drewN hB, HS.out⟩
            case measure => simp [intOf]
    · have HD0 : Hid (DurI R ((115, 1) :: hms.drop 3) s i n) := hd
      clear hd
      go_wp2
      go_loop [9] (fun tj => ∃ q : Nat, i ≤ q ∧ q ≤ s.size ∧ tj = .int .i64 q ∧ ∀ j (hj : j < s.size), i ≤ j → j < q → isD s[j] = true) (fun tj => s.size - (intOf tj).toNat)
      case atStart => exact ⟨i, Nat.le_refl _, hi, rfl, fun j hj h1 h2 => by omega⟩
      case round =>
        obtain ⟨q, hiq, hq, rfl, hall⟩ := hrel
        have HA : Hid (∀ j (hj : j < s.size), i ≤ j → j < q → isD s[j] = true) := hall
        clear hall
        by_cases hlt : q < s.size
        · have hDg := fun w => digit_any s[q] w
          by_cases hdq : isD s[q] = true
          · have HQ : Hid (isD s[q] = true) := hdq
            rw [hdq] at hDg
            clear hdq
            go_wp2_with (go_at_call 59; with_reducible refine (hDg _).mono ?_; rintro e w' ⟨rfl, hwe⟩; subst hwe)
            go_round
            case rel => exact ⟨q + 1, by omega, by omega, by go_num, fun j hj h1 h2 => by
              by_cases e : j = q
              · subst e; exact HQ.out
              · exact HA.out j hj h1 (by omega)⟩
            case measure => simp [intOf]; omega
          · have hf : isD s[q] = false := by simpa using hdq
            have HQ : Hid (isD s[q] = false) := hf
            rw [hf] at hDg
            clear hdq hf
            by_cases hiq2 : i < q
            · have hiq2' : (i : Int) < (q : Int) := by omega
              by_cases hu : (s[q].toNat : Int) = 115
              · have hue : s[q] = 115 := by apply UInt8.toNat_inj.1; show s[q].toNat = 115; omega
                have hok := digits_all s i q hiq2 hq HA.out
                have hDs := fun w => digits10 (s.extract i q) false w (by simp; omega)
                rw [hok] at hDs
                have HT : Hid (∀ d n', DigRes true (valD 10 0 (s.extract i q).data.toList) 1099511627776 d → n' = min (n + d * 1) 1099511627776 → DurI R (hms.drop 3) s (q + 1) n') := fun d n' h1 h2 => HD0.out.take hiq2 hlt HA.out (by decide) hue (by omega) (h1.1 rfl) h2
                simp only [hu] at hDg
                clear hok hue
                generalize valD 10 0 (s.extract i q).data.toList = X at hDs HT
                go_wp2_with (go_at_call 59; with_reducible refine (hDg _).mono ?_; rintro e w' ⟨rfl, hwe⟩; subst hwe)
                go_quiet (fail)
                have hHq := hH.drewN nq
                have hBq := bel_drewN (n := nq) hB
                obtain ⟨y0, Y1, y2⟩ := id hHq
                go_wp2_with (go_at_call 51; with_reducible refine (hDs _).mono ?_; rintro e w2 ⟨⟨d, rfl, hdr⟩, hwe⟩; subst hwe; have hd2 := DigRes.le hdr; have HR := hid_of hdr; clear hdr)
                · go_roundw
                  case rel => exact ⟨3, q + 1, 1099511627776, 3, by omega, by omega, by omega, by omega, by go_num, by go_num, by go_num, hHq, hBq, HT.out d _ HR.out (by omega)⟩
                  case measure => simp [intOf]
                · go_roundw
                  case rel => exact ⟨3, q + 1, n + d * 1, 3, by omega, by omega, by omega, by omega, by go_num, by go_num, by go_num, hHq, hBq, HT.out d _ HR.out (by omega)⟩
                  case measure => simp [intOf]
              · have hbyte : ((ByteArray.mk #[104, 109, 115])[2]'(by decide)).toNat = 115 := rfl
                have HS : Hid (DurI R (hms.drop 3) s i n) := HD0.out.skip hiq hq HA.out (.inr ⟨hlt, HQ.out⟩) (.inr (.inr ⟨hlt, fun e => hu (by rw [e]; rfl)⟩))
                go_wp2_with (go_at_call 59; with_reducible refine (hDg _).mono ?_; rintro e w' ⟨rfl, hwe⟩; subst hwe)
                go_quiet (fail)
                go_wp2
                go_roundw
                case rel => exact ⟨3, i, n, 3, by omega, by omega, hi, hn, rfl, rfl, by go_num, hH.drewN _, bel_drewN hB, HS.out⟩
                case measure => simp [intOf]
            · have hiq2' : ¬ (i : Int) < (q : Int) := by omega
              have HS : Hid (DurI R (hms.drop 3) s i n) := HD0.out.skip hiq hq HA.out (.inr ⟨hlt, HQ.out⟩) (.inl (by omega))
              go_wp2_with (go_at_call 59; with_reducible refine (hDg _).mono ?_; rintro e w' ⟨rfl, hwe⟩; subst hwe)
              go_quiet (fail)
              go_wp2
              go_roundw
              case rel => exact ⟨3, i, n, 3, by omega, by omega, hi, hn, rfl, rfl, by go_num, hH.drewN _, bel_drewN hB, HS.out⟩
              case measure => simp [intOf]
        · have HS : Hid (DurI R (hms.drop 3) s i n) := HD0.out.skip hiq hq HA.out (.inl (by omega)) (.inr (.inl (by omega)))
          have hlt' : ¬ (q : Int) < (s.size : Int) := by omega
          by_cases hiq2 : i < q
          · have hiq2' : (i : Int) < (q : Int) := by omega
            go_wp2
            go_quiet (fail)
            go_wp2
            go_roundw
            case rel => exact ⟨3, i, n, 3, by omega, by omega, hi, hn, rfl, rfl, by go_num, hH.drewN _, bel_drewN hB, HS.out⟩
            case measure => simp [intOf]
          · have hiq2' : ¬ (i : Int) < (q : Int) := by omega
            go_wp2
            go_quiet (fail)
            go_wp2
            go_roundw
            case rel => exact ⟨3, i, n, 3, by omega, by omega, hi, hn, rfl, rfl, by go_num, hH.drewN _, bel_drewN hB, HS.out⟩
            case measure => simp [intOf]
    · have HD : Hid (DurRes R (decide (i = s.size)) n) := hd.done hi
      clear hd
      by_cases he : i = s.size
      · have e1 : decide (i = s.size) = true := by simp [he]
        rw [e1] at HD
        have hpos : (0 : Int) < (s.size : Int) := by omega
        clear e1
        subst he
        go_wp2
        go_ret2
        exact ⟨⟨n, true, rfl, hn, HD.out⟩, hB⟩
      · have e1 : decide (i = s.size) = false := by simp [he]
        rw [e1] at HD
        have he' : ¬ (i : Int) = (s.size : Int) := by omega
        clear e1
        by_cases hi0 : (0 : Int) < (i : Int)
        · go_wp2
          go_ret2
          exact ⟨⟨n, false, ret_vb (by rw [beq_eq_false_iff_ne]; exact he'), hn, HD.out⟩, hB⟩
        · obtain rfl : i = 0 := by omega
          clear hi0
          go_wp2
          go_ret2
          exact ⟨⟨n, false, rfl, hn, HD.out⟩, hB⟩
end Go.Proofs.YtjohnhaahpggkabDoor
