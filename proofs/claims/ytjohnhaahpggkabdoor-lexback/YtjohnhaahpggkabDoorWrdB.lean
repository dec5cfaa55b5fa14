import Derived.Test.YtjohnhaahpggkabDoorWrdA
namespace Go.Proofs.YtjohnhaahpggkabDoor
open Go.RowKit
set_option linter.unusedVariables false

theorem span_p (p : UInt8 → Bool) (s : ByteArray) (i q : Nat) (hiq : i ≤ q) (hq : q ≤ s.size) (hall : ∀ j (hj : j < s.size), i ≤ j → j < q → p s[j] = true) (hend : q = s.size ∨ ∃ h : q < s.size, p s[q] = false) :
    (s.data.toList.drop i).takeWhile p = (s.extract i q).data.toList ∧ (s.data.toList.drop i).dropWhile p = s.data.toList.drop q := by
  have e : s.data.toList.drop i = (s.extract i q).data.toList ++ s.data.toList.drop q := by
    rw [Lib.extract_data]
    have h2 := List.take_append_drop (q - i) (s.data.toList.drop i)
    rw [List.drop_drop] at h2
    have : i + (q - i) = q := by omega
    rw [this] at h2
    exact h2.symm
  have hd : ∀ x ∈ (s.extract i q).data.toList, p x = true := by
    intro x hx
    obtain ⟨j, hj, ej⟩ := (mem_get _ x).1 hx
    have hs : (s.extract i q).size = q - i := by simp; omega
    have : (s.extract i q)[j] = s[i + j]'(by omega) := ByteArray.getElem_extract hj
    rw [← ej, this]; exact hall _ _ (by omega) (by omega)
  have hdrop : (s.data.toList.drop q).takeWhile p = [] ∧ (s.data.toList.drop q).dropWhile p = s.data.toList.drop q := by
    rcases hend with h | ⟨h, hn⟩
    · rw [drop_end s q (by omega)]; exact ⟨rfl, rfl⟩
    · rw [drop_get s q h]
      exact ⟨List.takeWhile_cons_of_neg (by simp [hn]), List.dropWhile_cons_of_neg (by simp [hn])⟩
  rw [e, List.takeWhile_append_of_pos hd, List.dropWhile_append_of_pos hd, hdrop.1, hdrop.2]
  simp

/-- Where the run that goes on at i ends. -/
def rEnd (s : ByteArray) (i : Nat) : Nat := i + (runL (s.data.toList.drop i)).length
theorem rEnd_at (s : ByteArray) (i q : Nat) (hiq : i ≤ q) (hq : q ≤ s.size) (hall : ∀ j (hj : j < s.size), i ≤ j → j < q → isR s[j] = true) (hend : q = s.size ∨ ∃ h : q < s.size, isR s[q] = false) : rEnd s i = q := by
  unfold rEnd runL
  rw [(span_p isR s i q hiq hq hall hend).1, Lib.extract_data]; simp; omega
theorem rEnd_le (s : ByteArray) (i : Nat) (h : i ≤ s.size) : rEnd s i ≤ s.size := by
  unfold rEnd runL
  have := (List.takeWhile_prefix isR (l := s.data.toList.drop i)).length_le
  simp at this; omega
theorem rEnd_run (s : ByteArray) (i : Nat) : (s.extract i (rEnd s i)).data.toList = runL (s.data.toList.drop i) := by
  have hp := List.prefix_iff_eq_take.1 (List.takeWhile_prefix isR (l := s.data.toList.drop i))
  rw [Lib.extract_data]
  unfold rEnd runL
  have : i + ((s.data.toList.drop i).takeWhile isR).length - i = ((s.data.toList.drop i).takeWhile isR).length := by omega
  rw [this]
  exact hp.symm

set_option maxRecDepth 100000 in
set_option maxHeartbeats 1000000 in
theorem runEnd_any (s : ByteArray) (i : Nat) (w : World) (hs : s.size < 4611686018427387904) (hi : i ≤ s.size) :
    Calls Tryd.prog 40 #[.string s, .int .i64 i] w fun e w' => e = .returned (.int .i64 (rEnd s i : Nat)) ∧ w' = w := by
  have hE : Hid (∀ q, i ≤ q → q ≤ s.size → (∀ j (hj : j < s.size), i ≤ j → j < q → isR s[j] = true) → (q = s.size ∨ ∃ h : q < s.size, isR s[q] = false) → rEnd s i = q) := fun q h1 h2 h3 h4 => rEnd_at s i q h1 h2 h3 h4
  generalize rEnd s i = E at hE ⊢
  go_enter Tryd.func40, Tryd.ntmps40
  go_wp2
  go_loop [1] (fun tj => ∃ q : Nat, i ≤ q ∧ q ≤ s.size ∧ tj = .int .i64 q ∧ ∀ j (hj : j < s.size), i ≤ j → j < q → isR s[j] = true) (fun tj => s.size - (intOf tj).toNat)
  case atStart => exact ⟨i, Nat.le_refl _, hi, rfl, fun j hj h1 h2 => by omega⟩
  case round =>
    obtain ⟨q, hiq, hq, rfl, hall⟩ := hrel
    have HA : Hid (∀ j (hj : j < s.size), i ≤ j → j < q → isR s[j] = true) := hall
    clear hall
    by_cases hlt : q < s.size
    · have hDg := fun w => inRun_any s[q] w
      cases hr : isR s[q] with
      | true =>
        have HQ : Hid (isR s[q] = true) := hr
        rw [hr] at hDg
        clear hr
        go_wp2_with (go_at_call 50; with_reducible refine (hDg _).mono ?_; rintro e w' ⟨rfl, hwe⟩; subst hwe)
        go_round
        case rel => exact ⟨q + 1, by omega, by omega, by go_num, fun j hj h1 h2 => by
          by_cases e : j = q
          · subst e; exact HQ.out
          · exact HA.out j hj h1 (by omega)⟩
        case measure => simp [intOf]; omega
      | false =>
        have HE : Hid (E = q) := hE.out q hiq hq HA.out (.inr ⟨hlt, hr⟩)
        rw [hr] at hDg
        clear hr
        go_wp2_with (go_at_call 50; with_reducible refine (hDg _).mono ?_; rintro e w' ⟨rfl, hwe⟩; subst hwe)
        go_ret
        exact ⟨ret_int (by rw [HE.out]), rfl⟩
    · have HE : Hid (E = q) := hE.out q hiq hq HA.out (.inl (by omega))
      go_wp2
      go_ret
      exact ⟨ret_int (by rw [HE.out]), rfl⟩

theorem kind_kw (l : List UInt8) (h : kwK l ≠ -1) : kindL l = kwK l := by unfold kindL; rw [if_pos h]
theorem kind_sg (l : List UInt8) (h0 : kwK l = -1) (h : sgK l ≠ -1) : kindL l = sgK l := by unfold kindL; rw [if_neg (by simp [h0]), if_pos h]
theorem kind_rest (l : List UInt8) (h0 : kwK l = -1) (h1 : sgK l = -1) : kindL l = restK l := by
  unfold kindL; rw [if_neg (by simp [h0]), if_neg (by simp [h1])]
theorem all_run (l : List UInt8) : l.all isR = decide ((runL l).length = l.length) := by
  unfold runL
  induction l with
  | nil => rfl
  | cons a l ih =>
    cases h : isR a with
    | true => rw [List.all_cons, h, List.takeWhile_cons_of_pos h]; simp [ih]
    | false => rw [List.all_cons, h, List.takeWhile_cons_of_neg (by simp [h])]; simp

set_option maxRecDepth 100000 in
set_option maxHeartbeats 4000000 in
theorem refKindOf_any (s : ByteArray) (w : World) (hs : s.size < 4611686018427387904) (hK : Kt w) (hS : St w) :
    Calls Tryd.prog 32 #[.string s] w fun e w' => e = .returned (.int .i64 (kindL s.data.toList)) ∧ Below w.heap.size w w' := by
  have hT : s.toList = s.data.toList := Lib.toList_data s
  have hkk := kind_kw s.data.toList
  have hks := kind_sg s.data.toList
  have hkr := kind_rest s.data.toList
  have hmk := kwK_mem s.data.toList
  have hms := sgK_mem s.data.toList
  have hk0 : Hid (look (kwL.drop 0) s.data.toList 10 = kwK s.data.toList) := rfl
  have hs0 : Hid (look (sgL.drop 0) s.data.toList 60 = sgK s.data.toList) := rfl
  generalize kindL s.data.toList = A at hkk hks hkr ⊢
  generalize kwK s.data.toList = AK at hkk hks hkr hk0 hmk
  generalize sgK s.data.toList = AS at hks hkr hs0 hms
  have HKK : Hid (AK ≠ -1 → A = AK) := hkk
  have HKS : Hid (AK = -1 → AS ≠ -1 → A = AS) := hks
  have HKR : Hid (AK = -1 → AS = -1 → A = _) := hkr
  clear hkk hks hkr
  go_enter Tryd.func32, Tryd.ntmps32
  go_wp2
  go_loop [3] (fun tk => ∃ k : Nat, k ≤ 41 ∧ tk = .int .i64 (k : Int) ∧ look (kwL.drop k) s.data.toList (k + 10) = AK) (fun tk => 41 - (intOf tk).toNat)
  case atStart => exact ⟨0, by omega, rfl, hk0.out⟩
  case round =>
    obtain ⟨k, hk, rfl, hl⟩ := hrel
    have HL : Hid (look (kwL.drop k) s.data.toList (k + 10) = AK) := hl
    clear hl
    by_cases hlt : k < 41
    · have hc := hK.2 k hlt
      have HS : Hid (look (kwL.drop k) s.data.toList (k + 10) = _) := look_drop kwL s.data.toList k (k + 10) hlt
      have hb : (bs (kwL.getD k [])).toList = kwL.getD k [] := bs_toList _
      generalize kwL.getD k [] = X at hc hb HS
      have k1 : (k : Int) < 41 := by omega
      by_cases he : X = s.data.toList
      · have hq : ((bs X).toList == s.toList) = true := by rw [hb, hT, he]; simp
        have HR : Hid (A = 10 + (k : Int)) := by
          show _ = _
          have e : AK = 10 + (k : Int) := by rw [← HL.out, HS.out, if_pos he]; omega
          rw [HKK.out (by omega), e]
        clear hb hT he hmk hms
        go_wp2
        go_ret
        exact ⟨ret_int HR.out.symm, Below.refl _ _⟩
      · have hq : ((bs X).toList == s.toList) = false := by rw [hb, hT]; simpa using he
        have HR : Hid (look (kwL.drop (k + 1)) s.data.toList (k + 1 + 10) = AK) := by
          show _ = _
          rw [← HL.out, HS.out, if_neg he]
        clear hb hT he hmk hms
        go_wp2
        go_round
        case rel => exact ⟨k + 1, by omega, by go_num, HR.out⟩
        case measure => simp [intOf]; omega
    · have HAK : Hid (AK = -1) := by
        show _ = _
        rw [← HL.out, look_end kwL _ _ _ (by have : kwL.length = 41 := rfl; omega)]
      have k2 : ¬ (k : Int) < 41 := by omega
      clear hmk
      go_wp2
      go_loop [4] (fun tk => ∃ k : Nat, k ≤ 18 ∧ tk = .int .i64 (k : Int) ∧ look (sgL.drop k) s.data.toList (k + 60) = AS) (fun tk => 18 - (intOf tk).toNat)
      case atStart => exact ⟨0, by omega, rfl, hs0.out⟩
      case round =>
        clear k2 HL hk hlt
        obtain ⟨j, hj, rfl, hl⟩ := hrel
        have HL : Hid (look (sgL.drop j) s.data.toList (j + 60) = AS) := hl
        clear hl
        by_cases hlt : j < 18
        · have hc := hS.2 j hlt
          have HS : Hid (look (sgL.drop j) s.data.toList (j + 60) = _) := look_drop sgL s.data.toList j (j + 60) hlt
          have hb : (bs (sgL.getD j [])).toList = sgL.getD j [] := bs_toList _
          generalize sgL.getD j [] = X at hc hb HS
          have k1 : (j : Int) < 18 := by omega
          by_cases he : X = s.data.toList
          · have hq : ((bs X).toList == s.toList) = true := by rw [hb, hT, he]; simp
            have HR : Hid (A = 60 + (j : Int)) := by
              show _ = _
              have e : AS = 60 + (j : Int) := by rw [← HL.out, HS.out, if_pos he]; omega
              rw [HKS.out HAK.out (by omega), e]
            clear hb hT he hms
            go_wp2
            go_ret
            exact ⟨ret_int HR.out.symm, Below.refl _ _⟩
          · have hq : ((bs X).toList == s.toList) = false := by rw [hb, hT]; simpa using he
            have HR : Hid (look (sgL.drop (j + 1)) s.data.toList (j + 1 + 60) = AS) := by
              show _ = _
              rw [← HL.out, HS.out, if_neg he]
            clear hb hT he hms
            go_wp2
            go_round
            case rel => exact ⟨j + 1, by omega, by go_num, HR.out⟩
            case measure => simp [intOf]; omega
        · have HAS : Hid (AS = -1) := by
            show _ = _
            rw [← HL.out, look_end sgL _ _ _ (by have : sgL.length = 18 := rfl; omega)]
          have k2 : ¬ (j : Int) < 18 := by omega
          clear hms HL
          have HA : Hid (A = restK s.data.toList) := HKR.out HAK.out HAS.out
          clear HKR HKS HKK HAK HAS hk0 hs0
          by_cases h0 : s.size = 0
          · have he : s = ByteArray.empty := by
              obtain ⟨⟨l⟩⟩ := s
              have : l = [] := by apply List.eq_nil_of_length_eq_zero; exact h0
              subst this; rfl
            subst he
            have HR : Hid (A = -1) := HA.out
            clear hT h0 HA hs
            go_wp2
            go_ret
            exact ⟨ret_int HR.out.symm, Below.refl _ _⟩
          · have h1 : 0 < s.size := by omega
            have hne : s.toList.isEmpty = false := by rw [hT, list_cons s h1]; rfl
            have hRE : ∀ w, Calls Tryd.prog 40 #[.string s, .int .i64 0] w fun e w' => e = .returned (.int .i64 (rEnd s 0 : Nat)) ∧ w' = w := fun w => runEnd_any s 0 w hs (by omega)
            have hle := rEnd_le s 0 (by omega)
            have hall : (s.data.toList.all isR = true) ↔ rEnd s 0 = s.size := by
              rw [all_run]; unfold rEnd; simp
            have hrest : restK s.data.toList = if s.data.toList.all isR = false then -1 else if isL s[0] = true then (if 32 < s.size then -1 else 1) else if numE (numOf s.data.toList) = 0 then 2 else -1 := by
              unfold restK
              have e1 : s.data.toList.headD 0 = s[0] := by rw [list_cons s h1]; rfl
              have e2 : s.data.toList.length = s.size := by simp
              have e3 : ¬ s.data.toList = [] := by rw [list_cons s h1]; simp
              rw [e1, e2]
              simp only [e3, false_or]
            have HA2 : Hid (A = _) := HA.out.trans hrest
            clear hT HA hrest
            cases hr : s.data.toList.all isR with
            | false =>
              have hE : ¬ rEnd s 0 = s.size := by rw [← hall, hr]; simp
              have HR : Hid (A = -1) := by
                show A = _
                rw [show A = _ from HA2, if_pos hr]
              clear hr hall HA2
              generalize rEnd s 0 = E at *
              have hE' : ¬ (E : Int) = (s.size : Int) := by omega
              go_wp2_with (go_at_call 40; with_reducible refine (hRE _).mono ?_; rintro e w' ⟨rfl, hwe⟩; subst hwe)
              go_ret
              exact ⟨ret_int HR.out.symm, Below.refl _ _⟩
            | true =>
              have hE := hall.1 hr
              rw [hE] at hRE
              have hLt := fun w => letter_any s[0] w
              clear hall hE hle
              cases hL : isL s[0] with
              | true =>
                rw [hL] at hLt
                by_cases h32 : 32 < s.size
                · have HR : Hid (A = -1) := by
                    show A = _
                    rw [show A = _ from HA2, if_neg (by simp [hr]), if_pos hL, if_pos h32]
                  have h32' : (32 : Int) < (s.size : Int) := by omega
                  clear hr HA2 hL
                  go_wp2_with (first
                    | (go_at_call 40; with_reducible refine (hRE _).mono ?_; rintro e w' ⟨rfl, hwe⟩; subst hwe)
                    | (go_at_call 41; with_reducible refine (hLt _).mono ?_; rintro e w' ⟨rfl, hwe⟩; subst hwe))
                  go_ret
                  exact ⟨ret_int HR.out.symm, Below.refl _ _⟩
                · have HR : Hid (A = 1) := by
                    show A = _
                    rw [show A = _ from HA2, if_neg (by simp [hr]), if_pos hL, if_neg h32]
                  have h32' : ¬ (32 : Int) < (s.size : Int) := by omega
                  clear hr HA2 hL
                  go_wp2_with (first
                    | (go_at_call 40; with_reducible refine (hRE _).mono ?_; rintro e w' ⟨rfl, hwe⟩; subst hwe)
                    | (go_at_call 41; with_reducible refine (hLt _).mono ?_; rintro e w' ⟨rfl, hwe⟩; subst hwe))
                  go_ret
                  exact ⟨ret_int HR.out.symm, Below.refl _ _⟩
              | false =>
                rw [hL] at hLt
                have hN := fun w => refNumber_any s w hs
                unfold numA at hN
                by_cases hE0 : numE (numOf s.data.toList) = 0
                · have HR : Hid (A = 2) := by
                    show A = _
                    rw [show A = _ from HA2, if_neg (by simp [hr]), if_neg (by simp [hL]), if_pos hE0]
                  rw [hE0] at hN
                  generalize numV (numOf s.data.toList) = NV at hN
                  clear hr HA2 hL hE0
                  go_wp2_with (first
                    | (go_at_call 40; with_reducible refine (hRE _).mono ?_; rintro e w' ⟨rfl, hwe⟩; subst hwe)
                    | (go_at_call 41; with_reducible refine (hLt _).mono ?_; rintro e w' ⟨rfl, hwe⟩; subst hwe)
                    | (go_at_call 42; with_reducible refine (hN _).mono ?_; rintro e w9 ⟨rfl, hb⟩))
                  go_ret
                  exact ⟨ret_int HR.out.symm, hb⟩
                · have HR : Hid (A = -1) := by
                    show A = _
                    rw [show A = _ from HA2, if_neg (by simp [hr]), if_neg (by simp [hL]), if_neg hE0]
                  generalize numV (numOf s.data.toList) = NV at hN
                  generalize numE (numOf s.data.toList) = NE at hN hE0
                  clear hr HA2 hL
                  go_wp2_with (first
                    | (go_at_call 40; with_reducible refine (hRE _).mono ?_; rintro e w' ⟨rfl, hwe⟩; subst hwe)
                    | (go_at_call 41; with_reducible refine (hLt _).mono ?_; rintro e w' ⟨rfl, hwe⟩; subst hwe)
                    | (go_at_call 42; with_reducible refine (hN _).mono ?_; rintro e w9 ⟨rfl, hb⟩))
                  go_ret
                  exact ⟨ret_int HR.out.symm, hb⟩
end Go.Proofs.YtjohnhaahpggkabDoor
