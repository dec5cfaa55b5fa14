import Derived.Test.YtnicolaphmffkaaGreatDoorLxA
import Derived.Test.YtnicolaphmffkaaGreatDoorLxB
namespace Go.Proofs.YtnicolaphmffkaaGreatDoor
open Go.RowKit
set_option linter.unusedVariables false
set_option linter.unusedSimpArgs false

def bs (l : List UInt8) : ByteArray := ⟨l.toArray⟩
theorem bs_toList (l : List UInt8) : (bs l).toList = l := by rw [Lib.toList_data]; rfl
theorem bs_data (s : ByteArray) : bs s.data.toList = s := rfl

/-- The code's table, the reference's two. -/
def Wt (w : World) : Prop := 2 < w.heap.size ∧ ∀ i, i < 78 → w.cell? ⟨2, i, none⟩ = some (.string (bs (wordL i)))
def Kt (w : World) : Prop := 0 < w.heap.size ∧ ∀ i, i < 41 → w.cell? ⟨0, i, none⟩ = some (.string (bs (kwL.getD i [])))
def SgT (w : World) : Prop := 1 < w.heap.size ∧ ∀ i, i < 18 → w.cell? ⟨1, i, none⟩ = some (.string (bs (sgL.getD i [])))
theorem Wt.below {B : Nat} {w w' : World} (h : Wt w) (hb : Below B w w') (hB : 2 < B) : Wt w' :=
  ⟨Nat.lt_of_lt_of_le h.1 hb.size, fun i hi => (hb.cell (p := ⟨2, i, none⟩) hB).trans (h.2 i hi)⟩
theorem Kt.below {B : Nat} {w w' : World} (h : Kt w) (hb : Below B w w') (hB : 0 < B) : Kt w' :=
  ⟨Nat.lt_of_lt_of_le h.1 hb.size, fun i hi => (hb.cell (p := ⟨0, i, none⟩) hB).trans (h.2 i hi)⟩
theorem SgT.below {B : Nat} {w w' : World} (h : SgT w) (hb : Below B w w') (hB : 1 < B) : SgT w' :=
  ⟨Nat.lt_of_lt_of_le h.1 hb.size, fun i hi => (hb.cell (p := ⟨1, i, none⟩) hB).trans (h.2 i hi)⟩

set_option maxRecDepth 100000 in
set_option maxHeartbeats 1000000 in
theorem kindAmong_kw (s : ByteArray) (w : World) (hW : Wt w) :
    Calls Tryz.prog 128 #[.string s, .int .i64 10, .int .i64 50] w fun e w' => e = .returned (.int .i64 (kwK s.data.toList)) ∧ w' = w := by
  have hA : Hid (look (kwL.drop 0) s.data.toList 10 = kwK s.data.toList) := rfl
  generalize kwK s.data.toList = A at hA ⊢
  have hT : s.toList = s.data.toList := Lib.toList_data s
  go_enter Tryz.func128, Tryz.ntmps128
  go_wp2
  go_loop [7] (fun tk => ∃ (k : Nat) (K : Int), K = (k : Int) + 10 ∧ k ≤ 41 ∧ tk = .int .i64 K ∧ look (kwL.drop k) s.data.toList (k + 10) = A) (fun tk => 10+41 - (intOf tk).toNat)
  case atStart => exact ⟨0, 10, by omega, by omega, rfl, hA.out⟩
  case round =>
    obtain ⟨k, K, hK, hk, rfl, hl⟩ := hrel
    have HL : Hid (look (kwL.drop k) s.data.toList (k + 10) = A) := hl
    have HK : Hid (K = (k : Int) + 10) := hK
    clear hl
    by_cases hlt : k < 41
    · have hc := hW.2 (k + 10) (by omega)
      rw [wordL_kw (k + 10) (by omega) (by omega)] at hc
      have e1 : k + 10 - 10 = k := by omega
      rw [e1] at hc
      have e2 : K.toNat = k + 10 := by omega
      rw [← e2] at hc
      have hS := look_drop kwL s.data.toList k (k + 10) hlt
      have HS : Hid (look (kwL.drop k) s.data.toList (k + 10) = _) := hS
      clear hS e1 e2
      have hb : (bs (kwL.getD k [])).toList = kwL.getD k [] := bs_toList _
      generalize kwL.getD k [] = X at hc hb HS
      have k0 : 0 ≤ K := by omega
      have k1 : K < 78 := by omega
      have k2 : K ≤ 50 := by omega
      by_cases he : X = s.data.toList
      · have hq : ((bs X).toList == s.toList) = true := by rw [hb, hT, he]; simp
        have HR : Hid (A = K) := by
          show _ = _
          rw [← HL.out, HS.out, if_pos he]; omega
        clear hb hT he hK
        go_wp2
        go_ret
        exact ⟨ret_int HR.out.symm, rfl⟩
      · have hq : ((bs X).toList == s.toList) = false := by rw [hb, hT]; simpa using he
        have HR : Hid (look (kwL.drop (k + 1)) s.data.toList (k + 1 + 10) = A) := by
          show _ = _
          rw [← HL.out, HS.out, if_neg he]
        clear hb hT he hK
        go_wp2
        go_round
        case rel => exact ⟨k + 1, K + 1, by have := HK.out; omega, by omega, by go_num, HR.out⟩
        case measure => simp [intOf]; omega
    · have HR : Hid (A = -1) := by
        show _ = _
        rw [← HL.out, look_end kwL _ _ _ (by have : kwL.length = 41 := rfl; omega)]
      have k2 : ¬ K ≤ 50 := by omega
      clear hK
      go_wp2
      go_ret
      exact ⟨ret_int HR.out.symm, rfl⟩

set_option maxRecDepth 100000 in
set_option maxHeartbeats 1000000 in
theorem kindAmong_sg (s : ByteArray) (w : World) (hW : Wt w) :
    Calls Tryz.prog 128 #[.string s, .int .i64 60, .int .i64 77] w fun e w' => e = .returned (.int .i64 (sgK s.data.toList)) ∧ w' = w := by
  have hA : Hid (look (sgL.drop 0) s.data.toList 60 = sgK s.data.toList) := rfl
  generalize sgK s.data.toList = A at hA ⊢
  have hT : s.toList = s.data.toList := Lib.toList_data s
  go_enter Tryz.func128, Tryz.ntmps128
  go_wp2
  go_loop [7] (fun tk => ∃ (k : Nat) (K : Int), K = (k : Int) + 60 ∧ k ≤ 18 ∧ tk = .int .i64 K ∧ look (sgL.drop k) s.data.toList (k + 60) = A) (fun tk => 60+18 - (intOf tk).toNat)
  case atStart => exact ⟨0, 60, by omega, by omega, rfl, hA.out⟩
  case round =>
    obtain ⟨k, K, hK, hk, rfl, hl⟩ := hrel
    have HL : Hid (look (sgL.drop k) s.data.toList (k + 60) = A) := hl
    have HK : Hid (K = (k : Int) + 60) := hK
    clear hl
    by_cases hlt : k < 18
    · have hc := hW.2 (k + 60) (by omega)
      rw [wordL_sg (k + 60) (by omega) (by omega)] at hc
      have e1 : k + 60 - 60 = k := by omega
      rw [e1] at hc
      have e2 : K.toNat = k + 60 := by omega
      rw [← e2] at hc
      have hS := look_drop sgL s.data.toList k (k + 60) hlt
      have HS : Hid (look (sgL.drop k) s.data.toList (k + 60) = _) := hS
      clear hS e1 e2
      have hb : (bs (sgL.getD k [])).toList = sgL.getD k [] := bs_toList _
      generalize sgL.getD k [] = X at hc hb HS
      have k0 : 0 ≤ K := by omega
      have k1 : K < 78 := by omega
      have k2 : K ≤ 77 := by omega
      by_cases he : X = s.data.toList
      · have hq : ((bs X).toList == s.toList) = true := by rw [hb, hT, he]; simp
        have HR : Hid (A = K) := by
          show _ = _
          rw [← HL.out, HS.out, if_pos he]; omega
        clear hb hT he hK
        go_wp2
        go_ret
        exact ⟨ret_int HR.out.symm, rfl⟩
      · have hq : ((bs X).toList == s.toList) = false := by rw [hb, hT]; simpa using he
        have HR : Hid (look (sgL.drop (k + 1)) s.data.toList (k + 1 + 60) = A) := by
          show _ = _
          rw [← HL.out, HS.out, if_neg he]
        clear hb hT he hK
        go_wp2
        go_round
        case rel => exact ⟨k + 1, K + 1, by have := HK.out; omega, by omega, by go_num, HR.out⟩
        case measure => simp [intOf]; omega
    · have HR : Hid (A = -1) := by
        show _ = _
        rw [← HL.out, look_end sgL _ _ _ (by have : sgL.length = 18 := rfl; omega)]
      have k2 : ¬ K ≤ 77 := by omega
      clear hK
      go_wp2
      go_ret
      exact ⟨ret_int HR.out.symm, rfl⟩

end Go.Proofs.YtnicolaphmffkaaGreatDoor
namespace Go.Proofs.YtnicolaphmffkaaGreatDoor
open Go.RowKit
set_option linter.unusedVariables false
set_option linter.unusedSimpArgs false

theorem span_p (p : UInt8 → Bool) (s : ByteArray) (i q : Nat) (hiq : i ≤ q) (hq : q ≤ s.size) (hall : ∀ j (hj : j < s.size), i ≤ j → j < q → p s[j] = true) (hend : q = s.size ∨ ∃ h : q < s.size, p s[q] = false) :
    (s.data.toList.drop i).takeWhile p = (s.extract i q).data.toList ∧ (s.data.toList.drop i).dropWhile p = s.data.toList.drop q := by
  have e : s.data.toList.drop i = (s.extract i q).data.toList ++ s.data.toList.drop q := by
    rw [Lib.extract_data]
    have h2 := List.take_append_drop (q - i) (s.data.toList.drop i)
    rw [List.drop_drop] at h2
    have : i + (q - i) = q := by omega
    rw [this] at h2
    exact h2.symm
  have hd : ∀ x ∈ (s.extract i q).data.toList, p x = true := by
    intro x hx
    obtain ⟨j, hj, ej⟩ := (mem_get _ x).1 hx
    have hs : (s.extract i q).size = q - i := by simp; omega
    have : (s.extract i q)[j] = s[i + j]'(by omega) := ByteArray.getElem_extract hj
    rw [← ej, this]; exact hall _ _ (by omega) (by omega)
  have hdrop : (s.data.toList.drop q).takeWhile p = [] ∧ (s.data.toList.drop q).dropWhile p = s.data.toList.drop q := by
    rcases hend with h | ⟨h, hn⟩
    · rw [drop_end s q (by omega)]; exact ⟨rfl, rfl⟩
    · rw [drop_get s q h]
      exact ⟨List.takeWhile_cons_of_neg (by simp [hn]), List.dropWhile_cons_of_neg (by simp [hn])⟩
  rw [e, List.takeWhile_append_of_pos hd, List.dropWhile_append_of_pos hd, hdrop.1, hdrop.2]
  simp

/-- Where the run that goes on at i ends. -/
def rEnd (s : ByteArray) (i : Nat) : Nat := i + (runL (s.data.toList.drop i)).length
theorem rEnd_at (s : ByteArray) (i q : Nat) (hiq : i ≤ q) (hq : q ≤ s.size) (hall : ∀ j (hj : j < s.size), i ≤ j → j < q → isR s[j] = true) (hend : q = s.size ∨ ∃ h : q < s.size, isR s[q] = false) : rEnd s i = q := by
  unfold rEnd runL
  rw [(span_p isR s i q hiq hq hall hend).1, Lib.extract_data]; simp; omega
theorem rEnd_le (s : ByteArray) (i : Nat) (h : i ≤ s.size) : rEnd s i ≤ s.size := by
  unfold rEnd runL
  have := (List.takeWhile_prefix isR (l := s.data.toList.drop i)).length_le
  simp at this; omega
theorem rEnd_run (s : ByteArray) (i : Nat) : (s.extract i (rEnd s i)).data.toList = runL (s.data.toList.drop i) := by
  have hp := List.prefix_iff_eq_take.1 (List.takeWhile_prefix isR (l := s.data.toList.drop i))
  rw [Lib.extract_data]
  unfold rEnd runL
  have : i + ((s.data.toList.drop i).takeWhile isR).length - i = ((s.data.toList.drop i).takeWhile isR).length := by omega
  rw [this]
  exact hp.symm

set_option maxRecDepth 100000 in
set_option maxHeartbeats 1000000 in
theorem runEnd_any (s : ByteArray) (i : Nat) (w : World) (hs : s.size < 4611686018427387904) (hi : i ≤ s.size) :
    Calls Tryz.prog 98 #[.string s, .int .i64 i] w fun e w' => e = .returned (.int .i64 (rEnd s i : Nat)) ∧ w' = w := by
  have hE : Hid (∀ q, i ≤ q → q ≤ s.size → (∀ j (hj : j < s.size), i ≤ j → j < q → isR s[j] = true) → (q = s.size ∨ ∃ h : q < s.size, isR s[q] = false) → rEnd s i = q) := fun q h1 h2 h3 h4 => rEnd_at s i q h1 h2 h3 h4
  generalize rEnd s i = E at hE ⊢
  go_enter Tryz.func98, Tryz.ntmps98
  go_wp2
  go_loop [1] (fun tj => ∃ q : Nat, i ≤ q ∧ q ≤ s.size ∧ tj = .int .i64 q ∧ ∀ j (hj : j < s.size), i ≤ j → j < q → isR s[j] = true) (fun tj => s.size - (intOf tj).toNat)
  case atStart => exact ⟨i, Nat.le_refl _, hi, rfl, fun j hj h1 h2 => by omega⟩
  case round =>
    obtain ⟨q, hiq, hq, rfl, hall⟩ := hrel
    have HA : Hid (∀ j (hj : j < s.size), i ≤ j → j < q → isR s[j] = true) := hall
    clear hall
    by_cases hlt : q < s.size
    · have hDg := fun w => inRun_any s[q] w
      cases hr : isR s[q] with
      | true =>
        have HQ : Hid (isR s[q] = true) := hr
        rw [hr] at hDg
        clear hr
        go_wp2_with (go_at_call 115; with_reducible refine (hDg _).mono ?_; rintro e w' ⟨rfl, hwe⟩; subst hwe)
        go_round
        case rel => exact ⟨q + 1, by omega, by omega, by go_num, fun j hj h1 h2 => by
          by_cases e : j = q
          · subst e; exact HQ.out
          · exact HA.out j hj h1 (by omega)⟩
        case measure => simp [intOf]; omega
      | false =>
        have HE : Hid (E = q) := hE.out q hiq hq HA.out (.inr ⟨hlt, hr⟩)
        rw [hr] at hDg
        clear hr
        go_wp2_with (go_at_call 115; with_reducible refine (hDg _).mono ?_; rintro e w' ⟨rfl, hwe⟩; subst hwe)
        go_ret
        exact ⟨ret_int (by rw [HE.out]), rfl⟩
    · have HE : Hid (E = q) := hE.out q hiq hq HA.out (.inl (by omega))
      go_wp2
      go_ret
      exact ⟨ret_int (by rw [HE.out]), rfl⟩

theorem kind_kw (l : List UInt8) (h : kwK l ≠ -1) : kindL l = kwK l := by unfold kindL; rw [if_pos h]
theorem kind_sg (l : List UInt8) (h0 : kwK l = -1) (h : sgK l ≠ -1) : kindL l = sgK l := by unfold kindL; rw [if_neg (by simp [h0]), if_pos h]
theorem kind_rest (l : List UInt8) (h0 : kwK l = -1) (h1 : sgK l = -1) : kindL l = restK l := by
  unfold kindL; rw [if_neg (by simp [h0]), if_neg (by simp [h1])]
theorem all_run (l : List UInt8) : l.all isR = decide ((runL l).length = l.length) := by
  unfold runL
  induction l with
  | nil => rfl
  | cons a l ih =>
    cases h : isR a with
    | true => rw [List.all_cons, h, List.takeWhile_cons_of_pos h]; simp [ih]
    | false => rw [List.all_cons, h, List.takeWhile_cons_of_neg (by simp [h])]; simp

set_option maxRecDepth 100000 in
set_option maxHeartbeats 4000000 in
theorem refKindOf_any (s : ByteArray) (w : World) (hs : s.size < 4611686018427387904) (hK : Kt w) (hS : SgT w) :
    Calls Tryz.prog 70 #[.string s] w fun e w' => e = .returned (.int .i64 (kindL s.data.toList)) ∧ Below w.heap.size w w' := by
  have hT : s.toList = s.data.toList := Lib.toList_data s
  have hkk := kind_kw s.data.toList
  have hks := kind_sg s.data.toList
  have hkr := kind_rest s.data.toList
  have hmk := kwK_mem s.data.toList
  have hms := sgK_mem s.data.toList
  have hk0 : Hid (look (kwL.drop 0) s.data.toList 10 = kwK s.data.toList) := rfl
  have hs0 : Hid (look (sgL.drop 0) s.data.toList 60 = sgK s.data.toList) := rfl
  generalize kindL s.data.toList = A at hkk hks hkr ⊢
  generalize kwK s.data.toList = AK at hkk hks hkr hk0 hmk
  generalize sgK s.data.toList = AS at hks hkr hs0 hms
  have HKK : Hid (AK ≠ -1 → A = AK) := hkk
  have HKS : Hid (AK = -1 → AS ≠ -1 → A = AS) := hks
  have HKR : Hid (AK = -1 → AS = -1 → A = _) := hkr
  clear hkk hks hkr
  go_enter Tryz.func70, Tryz.ntmps70
  go_wp2
  go_loop [3] (fun tk => ∃ k : Nat, k ≤ 41 ∧ tk = .int .i64 (k : Int) ∧ look (kwL.drop k) s.data.toList (k + 10) = AK) (fun tk => 41 - (intOf tk).toNat)
  case atStart => exact ⟨0, by omega, rfl, hk0.out⟩
  case round =>
    obtain ⟨k, hk, rfl, hl⟩ := hrel
    have HL : Hid (look (kwL.drop k) s.data.toList (k + 10) = AK) := hl
    clear hl
    by_cases hlt : k < 41
    · have hc := hK.2 k hlt
      have HS : Hid (look (kwL.drop k) s.data.toList (k + 10) = _) := look_drop kwL s.data.toList k (k + 10) hlt
      have hb : (bs (kwL.getD k [])).toList = kwL.getD k [] := bs_toList _
      generalize kwL.getD k [] = X at hc hb HS
      have k1 : (k : Int) < 41 := by omega
      by_cases he : X = s.data.toList
      · have hq : ((bs X).toList == s.toList) = true := by rw [hb, hT, he]; simp
        have HR : Hid (A = 10 + (k : Int)) := by
          show _ = _
          have e : AK = 10 + (k : Int) := by rw [← HL.out, HS.out, if_pos he]; omega
          rw [HKK.out (by omega), e]
        clear hb hT he hmk hms
        go_wp2
        go_ret
        exact ⟨ret_int HR.out.symm, Below.refl _ _⟩
      · have hq : ((bs X).toList == s.toList) = false := by rw [hb, hT]; simpa using he
        have HR : Hid (look (kwL.drop (k + 1)) s.data.toList (k + 1 + 10) = AK) := by
          show _ = _
          rw [← HL.out, HS.out, if_neg he]
        clear hb hT he hmk hms
        go_wp2
        go_round
        case rel => exact ⟨k + 1, by omega, by go_num, HR.out⟩
        case measure => simp [intOf]; omega
    · have HAK : Hid (AK = -1) := by
        show _ = _
        rw [← HL.out, look_end kwL _ _ _ (by have : kwL.length = 41 := rfl; omega)]
      have k2 : ¬ (k : Int) < 41 := by omega
      clear hmk
      go_wp2
      go_loop [4] (fun tk => ∃ k : Nat, k ≤ 18 ∧ tk = .int .i64 (k : Int) ∧ look (sgL.drop k) s.data.toList (k + 60) = AS) (fun tk => 18 - (intOf tk).toNat)
      case atStart => exact ⟨0, by omega, rfl, hs0.out⟩
      case round =>
        clear k2 HL hk hlt
        obtain ⟨j, hj, rfl, hl⟩ := hrel
        have HL : Hid (look (sgL.drop j) s.data.toList (j + 60) = AS) := hl
        clear hl
        by_cases hlt : j < 18
        · have hc := hS.2 j hlt
          have HS : Hid (look (sgL.drop j) s.data.toList (j + 60) = _) := look_drop sgL s.data.toList j (j + 60) hlt
          have hb : (bs (sgL.getD j [])).toList = sgL.getD j [] := bs_toList _
          generalize sgL.getD j [] = X at hc hb HS
          have k1 : (j : Int) < 18 := by omega
          by_cases he : X = s.data.toList
          · have hq : ((bs X).toList == s.toList) = true := by rw [hb, hT, he]; simp
            have HR : Hid (A = 60 + (j : Int)) := by
              show _ = _
              have e : AS = 60 + (j : Int) := by rw [← HL.out, HS.out, if_pos he]; omega
              rw [HKS.out HAK.out (by omega), e]
            clear hb hT he hms
            go_wp2
            go_ret
            exact ⟨ret_int HR.out.symm, Below.refl _ _⟩
          · have hq : ((bs X).toList == s.toList) = false := by rw [hb, hT]; simpa using he
            have HR : Hid (look (sgL.drop (j + 1)) s.data.toList (j + 1 + 60) = AS) := by
              show _ = _
              rw [← HL.out, HS.out, if_neg he]
            clear hb hT he hms
            go_wp2
            go_round
            case rel => exact ⟨j + 1, by omega, by go_num, HR.out⟩
            case measure => simp [intOf]; omega
        · have HAS : Hid (AS = -1) := by
            show _ = _
            rw [← HL.out, look_end sgL _ _ _ (by have : sgL.length = 18 := rfl; omega)]
          have k2 : ¬ (j : Int) < 18 := by omega
          clear hms HL
          have HA : Hid (A = restK s.data.toList) := HKR.out HAK.out HAS.out
          clear HKR HKS HKK HAK HAS hk0 hs0
          by_cases h0 : s.size = 0
          · have he : s = ByteArray.empty := by
              obtain ⟨⟨l⟩⟩ := s
              have : l = [] := by apply List.eq_nil_of_length_eq_zero; exact h0
              subst this; rfl
            subst he
            have HR : Hid (A = -1) := HA.out
            clear hT h0 HA hs
            go_wp2
            go_ret
            exact ⟨ret_int HR.out.symm, Below.refl _ _⟩
          · have h1 : 0 < s.size := by omega
            have hne : s.toList.isEmpty = false := by rw [hT, list_cons s h1]; rfl
            have hRE : ∀ w, Calls Tryz.prog 98 #[.string s, .int .i64 0] w fun e w' => e = .returned (.int .i64 (rEnd s 0 : Nat)) ∧ w' = w := fun w => runEnd_any s 0 w hs (by omega)
            have hle := rEnd_le s 0 (by omega)
            have hall : (s.data.toList.all isR = true) ↔ rEnd s 0 = s.size := by
              rw [all_run]; unfold rEnd; simp
            have hrest : restK s.data.toList = if s.data.toList.all isR = false then -1 else if isL s[0] = true then (if 32 < s.size then -1 else 1) else if numE (numOf s.data.toList) = 0 then 2 else -1 := by
              unfold restK
              have e1 : s.data.toList.headD 0 = s[0] := by rw [list_cons s h1]; rfl
              have e2 : s.data.toList.length = s.size := by simp
              have e3 : ¬ s.data.toList = [] := by rw [list_cons s h1]; simp
              rw [e1, e2]
              simp only [e3, false_or]
            have HA2 : Hid (A = _) := HA.out.trans hrest
            clear hT HA hrest
            cases hr : s.data.toList.all isR with
            | false =>
              have hE : ¬ rEnd s 0 = s.size := by rw [← hall, hr]; simp
              have HR : Hid (A = -1) := by
                show A = _
                rw [show A = _ from HA2, if_pos hr]
              clear hr hall HA2
              generalize rEnd s 0 = E at *
              have hE' : ¬ (E : Int) = (s.size : Int) := by omega
              go_wp2_with (go_at_call 98; with_reducible refine (hRE _).mono ?_; rintro e w' ⟨rfl, hwe⟩; subst hwe)
              go_ret
              exact ⟨ret_int HR.out.symm, Below.refl _ _⟩
            | true =>
              have hE := hall.1 hr
              rw [hE] at hRE
              have hLt := fun w => letter_any s[0] w
              clear hall hE hle
              cases hL : isL s[0] with
              | true =>
                rw [hL] at hLt
                by_cases h32 : 32 < s.size
                · have HR : Hid (A = -1) := by
                    show A = _
                    rw [show A = _ from HA2, if_neg (by simp [hr]), if_pos hL, if_pos h32]
                  have h32' : (32 : Int) < (s.size : Int) := by omega
                  clear hr HA2 hL
                  go_wp2_with (first
                    | (go_at_call 98; with_reducible refine (hRE _).mono ?_; rintro e w' ⟨rfl, hwe⟩; subst hwe)
                    | (go_at_call 99; with_reducible refine (hLt _).mono ?_; rintro e w' ⟨rfl, hwe⟩; subst hwe))
                  go_ret
                  exact ⟨ret_int HR.out.symm, Below.refl _ _⟩
                · have HR : Hid (A = 1) := by
                    show A = _
                    rw [show A = _ from HA2, if_neg (by simp [hr]), if_pos hL, if_neg h32]
                  have h32' : ¬ (32 : Int) < (s.size : Int) := by omega
                  clear hr HA2 hL
                  go_wp2_with (first
                    | (go_at_call 98; with_reducible refine (hRE _).mono ?_; rintro e w' ⟨rfl, hwe⟩; subst hwe)
                    | (go_at_call 99; with_reducible refine (hLt _).mono ?_; rintro e w' ⟨rfl, hwe⟩; subst hwe))
                  go_ret
                  exact ⟨ret_int HR.out.symm, Below.refl _ _⟩
              | false =>
                rw [hL] at hLt
                have hN := fun w => refNumber_any s w hs
                unfold numA at hN
                by_cases hE0 : numE (numOf s.data.toList) = 0
                · have HR : Hid (A = 2) := by
                    show A = _
                    rw [show A = _ from HA2, if_neg (by simp [hr]), if_neg (by simp [hL]), if_pos hE0]
                  rw [hE0] at hN
                  generalize numV (numOf s.data.toList) = NV at hN
                  clear hr HA2 hL hE0
                  go_wp2_with (first
                    | (go_at_call 98; with_reducible refine (hRE _).mono ?_; rintro e w' ⟨rfl, hwe⟩; subst hwe)
                    | (go_at_call 99; with_reducible refine (hLt _).mono ?_; rintro e w' ⟨rfl, hwe⟩; subst hwe)
                    | (go_at_call 100; with_reducible refine (hN _).mono ?_; rintro e w9 ⟨rfl, hb⟩))
                  go_ret
                  exact ⟨ret_int HR.out.symm, hb⟩
                · have HR : Hid (A = -1) := by
                    show A = _
                    rw [show A = _ from HA2, if_neg (by simp [hr]), if_neg (by simp [hL]), if_neg hE0]
                  generalize numV (numOf s.data.toList) = NV at hN
                  generalize numE (numOf s.data.toList) = NE at hN hE0
                  clear hr HA2 hL
                  go_wp2_with (first
                    | (go_at_call 98; with_reducible refine (hRE _).mono ?_; rintro e w' ⟨rfl, hwe⟩; subst hwe)
                    | (go_at_call 99; with_reducible refine (hLt _).mono ?_; rintro e w' ⟨rfl, hwe⟩; subst hwe)
                    | (go_at_call 100; with_reducible refine (hN _).mono ?_; rintro e w9 ⟨rfl, hb⟩))
                  go_ret
                  exact ⟨ret_int HR.out.symm, hb⟩
end Go.Proofs.YtnicolaphmffkaaGreatDoor
namespace Go.Proofs.YtnicolaphmffkaaGreatDoor
open Go.RowKit
set_option linter.unusedVariables false
set_option linter.unusedSimpArgs false

/-- A token without its place. -/
structure Tk where
  kind : Int
  num : Int
  text : List UInt8
/-- A token's value at a place. -/
def tokV (t : Tk) (line col : Int) : Value := .agg #[.int .i64 t.kind, .int .i32 t.num, .string (bs t.text), .int .i64 line, .int .i64 col]

def wordTk (r : List UInt8) : Tk := if 32 < r.length then ⟨-1, 24, []⟩ else if kwK r = -1 then ⟨1, 0, r⟩ else ⟨kwK r, 0, []⟩
def numTk (r : List UInt8) : Tk := if numE (numOf r) = 0 then ⟨2, numV (numOf r), []⟩ else ⟨-1, numE (numOf r), []⟩
def signTk (l : List UInt8) : Tk × Nat :=
  if 2 ≤ l.length ∧ sgK (l.take 2) ≠ -1 then (⟨sgK (l.take 2), 0, []⟩, 2) else if sgK (l.take 1) ≠ -1 then (⟨sgK (l.take 1), 0, []⟩, 1) else (⟨-1, 21, []⟩, 0)
/-- The token that a text begins with, and its length. -/
def firstTk (l : List UInt8) : Tk × Nat :=
  if l = [] then (⟨0, 0, []⟩, 0) else if isL (l.headD 0) = true then (wordTk (runL l), (runL l).length) else if isD (l.headD 0) = true then (numTk (runL l), (runL l).length) else signTk l

theorem tokV_eq (k n : Int) (x : List UInt8) (a b : Int) : tokV ⟨k, n, x⟩ a b = .agg #[.int .i64 k, .int .i32 n, .string (bs x), .int .i64 a, .int .i64 b] := rfl
theorem bs_nil : bs [] = ⟨#[]⟩ := rfl

set_option maxRecDepth 100000 in
set_option maxHeartbeats 1000000 in
theorem badToken_any (e : Int) (w : World) (h0 : 0 ≤ e) (h1 : e ≤ 1000) : Calls Tryz.prog 127 #[.int .i64 e] w fun r w' => r = .returned (tokV ⟨-1, e, []⟩ 0 0) ∧ Below w.heap.size w w' := by
  rw [tokV_eq, bs_nil]
  go_enter Tryz.func127, Tryz.ntmps127
  go_wp2
  exact bodyPost_ret (v := .agg #[.int .i64 (-1), .int .i32 e, .string ⟨#[]⟩, .int .i64 0, .int .i64 0]) (by simp [results, Tryz.results127, go_sem]) rfl ⟨rfl, (Below.refl _ _).alloc (Nat.le_refl _) _⟩

set_option maxRecDepth 100000 in
set_option maxHeartbeats 2000000 in
theorem firstRun_any (s : ByteArray) (w : World) (hs : s.size < 4611686018427387904) :
    Calls Tryz.prog 120 #[.string s] w fun e w' => e = .returned (.string (s.extract 0 (rEnd s 0))) ∧ w' = w := by
  have hE : Hid (∀ q, 0 ≤ q → q ≤ s.size → (∀ j (hj : j < s.size), 0 ≤ j → j < q → isR s[j] = true) → (q = s.size ∨ ∃ h : q < s.size, isR s[q] = false) → rEnd s 0 = q) := fun q h1 h2 h3 h4 => rEnd_at s 0 q h1 h2 h3 h4
  generalize rEnd s 0 = E at hE ⊢
  go_enter Tryz.func120, Tryz.ntmps120
  go_wp2
  go_loop [3] (fun tj => ∃ q : Nat, q ≤ s.size ∧ tj = .int .i64 q ∧ ∀ j (hj : j < s.size), 0 ≤ j → j < q → isR s[j] = true) (fun tj => s.size - (intOf tj).toNat)
  case atStart => exact ⟨0, by omega, rfl, fun j hj h1 h2 => by omega⟩
  case round =>
    obtain ⟨q, hq, rfl, hall⟩ := hrel
    have HA : Hid (∀ j (hj : j < s.size), 0 ≤ j → j < q → isR s[j] = true) := hall
    clear hall
    by_cases hlt : q < s.size
    · have hLt := fun w => isLetter_any s[q] w
      have hDg := fun w => isDigit_any s[q] w
      have hi := isR_iff s[q]
      cases hr : isR s[q] with
      | true =>
        have HQ : Hid (isR s[q] = true) := hr
        have hcs : isL s[q] = true ∨ (isL s[q] = false ∧ isD s[q] = true) ∨ (isL s[q] = false ∧ isD s[q] = false ∧ (s[q].toNat : Int) = 95) := by
          rw [hr] at hi
          cases h1 : isL s[q] with
          | true => exact .inl rfl
          | false =>
            right
            cases h2 : isD s[q] with
            | true => exact .inl ⟨rfl, rfl⟩
            | false => right; rw [h1, h2] at hi; simp at hi; exact ⟨rfl, rfl, by omega⟩
        clear hr hi
        rcases hcs with h1 | ⟨h1, h2⟩ | ⟨h1, h2, h3⟩
        · rw [h1] at hLt
          clear h1
          go_wp2_with (first
            | (go_at_call 119; (with_reducible refine (hLt _).mono ?_); rintro e w' ⟨rfl, hwe⟩; subst hwe)
            | (go_at_call 122; (with_reducible refine (hDg _).mono ?_); rintro e w' ⟨rfl, hwe⟩; subst hwe))
          go_round
          case rel => exact ⟨q + 1, by omega, by go_num, fun j hj h1 h2 => by
            by_cases e : j = q
            · subst e; exact HQ.out
            · exact HA.out j hj h1 (by omega)⟩
          case measure => simp [intOf]; omega
        · rw [h1] at hLt
          rw [h2] at hDg
          clear h1 h2
          go_wp2_with (first
            | (go_at_call 119; (with_reducible refine (hLt _).mono ?_); rintro e w' ⟨rfl, hwe⟩; subst hwe)
            | (go_at_call 122; (with_reducible refine (hDg _).mono ?_); rintro e w' ⟨rfl, hwe⟩; subst hwe))
          go_round
          case rel => exact ⟨q + 1, by omega, by go_num, fun j hj h1 h2 => by
            by_cases e : j = q
            · subst e; exact HQ.out
            · exact HA.out j hj h1 (by omega)⟩
          case measure => simp [intOf]; omega
        · rw [h1] at hLt
          rw [h2] at hDg
          clear h1 h2
          simp only [h3] at hLt hDg
          go_wp2_with (first
            | (go_at_call 119; (with_reducible refine (hLt _).mono ?_); rintro e w' ⟨rfl, hwe⟩; subst hwe)
            | (go_at_call 122; (with_reducible refine (hDg _).mono ?_); rintro e w' ⟨rfl, hwe⟩; subst hwe))
          go_round
          case rel => exact ⟨q + 1, by omega, by go_num, fun j hj h1 h2 => by
            by_cases e : j = q
            · subst e; exact HQ.out
            · exact HA.out j hj h1 (by omega)⟩
          case measure => simp [intOf]; omega
      | false =>
        have HE : Hid (E = q) := hE.out q (by omega) hq HA.out (.inr ⟨hlt, hr⟩)
        rw [hr] at hi
        have h1 : isL s[q] = false := by
          cases h : isL s[q] with
          | false => rfl
          | true => rw [h] at hi; simp at hi
        have h2 : isD s[q] = false := by
          cases h : isD s[q] with
          | false => rfl
          | true => rw [h] at hi; simp at hi
        have h3 : ¬ (s[q].toNat : Int) = 95 := by
          intro h; rw [h1, h2] at hi; simp at hi; omega
        rw [h1] at hLt
        rw [h2] at hDg
        clear hr hi h1 h2
        go_wp2_with (first
          | (go_at_call 119; (with_reducible refine (hLt _).mono ?_); rintro e w' ⟨rfl, hwe⟩; subst hwe)
          | (go_at_call 122; (with_reducible refine (hDg _).mono ?_); rintro e w' ⟨rfl, hwe⟩; subst hwe))
        go_ret
        exact ⟨ret_str (by rw [HE.out]), rfl⟩
    · have HE : Hid (E = q) := hE.out q (by omega) hq HA.out (.inl (by omega))
      go_wp2
      go_ret
      exact ⟨ret_str (by rw [HE.out]), rfl⟩

set_option maxRecDepth 100000 in
set_option maxHeartbeats 1000000 in
theorem wordToken_any (s : ByteArray) (w : World) (hs : s.size < 4611686018427387904) (hW : Wt w) :
    Calls Tryz.prog 121 #[.string s] w fun e w' => e = .returned (tokV (wordTk s.data.toList) 0 0) ∧ Below w.heap.size w w' := by
  have hsl : s.data.toList.length = s.size := by simp
  by_cases h32 : 32 < s.size
  · have e : wordTk s.data.toList = ⟨-1, 24, []⟩ := by unfold wordTk; rw [if_pos (by omega)]
    have hBt := fun w => badToken_any 24 w (by omega) (by omega)
    rw [e]
    rw [tokV_eq, bs_nil] at hBt ⊢
    have h32' : (32 : Int) < (s.size : Int) := by omega
    clear e
    go_enter Tryz.func121, Tryz.ntmps121
    go_wp2_with (go_at_call 127; (with_reducible refine (hBt _).mono ?_); rintro e w1 ⟨rfl, hb1⟩; have hX := (Has.new w #[.int .i64 0, .int .i32 0, .string ⟨#[]⟩, .int .i64 0, .int .i64 0] 217 rfl).below hb1; obtain ⟨x0, X1, x2⟩ := id hX)
    obtain ⟨y0, Y1, y2⟩ := hX.set5 (.int .i64 (-1)) (.int .i32 24) (.string ⟨#[]⟩) (.int .i64 0) (.int .i64 0)
    exact bodyPost_ret (v := .agg #[.int .i64 (-1), .int .i32 24, .string ⟨#[]⟩, .int .i64 0, .int .i64 0]) (by simp [results, Tryz.results121, go_sem, Y1]) rfl ⟨rfl, bel5 (((Below.refl _ _).alloc (Nat.le_refl _) _).trans (hb1.mono (by simp))) (Nat.le_refl _) _ _ _ _ _⟩
  · have h32' : ¬ (32 : Int) < (s.size : Int) := by omega
    have hKA := fun w (h : Wt w) => kindAmong_kw s w h
    by_cases hk : kwK s.data.toList = -1
    · have e : wordTk s.data.toList = ⟨1, 0, s.data.toList⟩ := by unfold wordTk; rw [if_neg (by omega), if_pos hk]
      rw [hk] at hKA
      rw [e, tokV_eq, bs_data]
      clear e hk hsl
      have hW1 := hKA _ (hW.below ((Below.refl w.heap.size w).alloc (Nat.le_refl _) (.cells #[.int .i64 0, .int .i32 0, .string ⟨#[]⟩, .int .i64 0, .int .i64 0] 217)) hW.1)
      clear hKA
      go_enter Tryz.func121, Tryz.ntmps121
      go_wp2_with (go_at_call 128; (with_reducible refine hW1.mono ?_); rintro e w1 ⟨rfl, hwe⟩; subst hwe)
      exact bodyPost_ret (v := .agg #[.int .i64 1, .int .i32 0, .string s, .int .i64 0, .int .i64 0]) (by simp [results, Tryz.results121, go_sem]) rfl ⟨rfl, (Below.refl _ _).alloc (Nat.le_refl _) _⟩
    · have e : wordTk s.data.toList = ⟨kwK s.data.toList, 0, []⟩ := by unfold wordTk; rw [if_neg (by omega), if_neg hk]
      rw [e, tokV_eq, bs_nil]
      have hW1 := hKA _ (hW.below ((Below.refl w.heap.size w).alloc (Nat.le_refl _) (.cells #[.int .i64 0, .int .i32 0, .string ⟨#[]⟩, .int .i64 0, .int .i64 0] 217)) hW.1)
      generalize kwK s.data.toList = K at *
      clear e hsl hKA
      go_enter Tryz.func121, Tryz.ntmps121
      go_wp2_with (go_at_call 128; (with_reducible refine hW1.mono ?_); rintro e w1 ⟨rfl, hwe⟩; subst hwe)
      exact bodyPost_ret (v := .agg #[.int .i64 K, .int .i32 0, .string ⟨#[]⟩, .int .i64 0, .int .i64 0]) (by simp [results, Tryz.results121, go_sem]) rfl ⟨rfl, (Below.refl _ _).alloc (Nat.le_refl _) _⟩
end Go.Proofs.YtnicolaphmffkaaGreatDoor
namespace Go.Proofs.YtnicolaphmffkaaGreatDoor
open Go.RowKit
set_option linter.unusedVariables false
set_option linter.unusedSimpArgs false

theorem numE_bd (R : Option Nat) : 0 ≤ numE R ∧ numE R ≤ 23 := by
  unfold numE; cases R with
  | none => simp
  | some v => simp only; split <;> omega

set_option maxRecDepth 100000 in
set_option maxHeartbeats 1000000 in
theorem numberToken_any (s : ByteArray) (w : World) (hs : s.size < 4611686018427387904) :
    Calls Tryz.prog 123 #[.string s] w fun e w' => e = .returned (tokV (numTk s.data.toList) 0 0) ∧ Below w.heap.size w w' := by
  have hN := fun w => number_any s w hs
  have hbd := numE_bd (numOf s.data.toList)
  unfold numA at hN
  by_cases hE : numE (numOf s.data.toList) = 0
  · have e : numTk s.data.toList = ⟨2, numV (numOf s.data.toList), []⟩ := by unfold numTk; rw [if_pos hE]
    rw [e, tokV_eq, bs_nil]
    rw [hE] at hN
    clear e
    generalize numV (numOf s.data.toList) = V at *
    go_enter Tryz.func123, Tryz.ntmps123
    go_wp2_with (go_at_call 129; (with_reducible refine (hN _).mono ?_); rintro e w1 ⟨rfl, hb1⟩; have hX := (Has.new w #[.int .i64 0, .int .i32 0, .string ⟨#[]⟩, .int .i64 0, .int .i64 0] 217 rfl).below hb1; obtain ⟨x0, X1, x2⟩ := id hX)
    obtain ⟨y0, Y1, y2⟩ := hX.set5 (.int .i64 2) (.int .i32 V) (.string ⟨#[]⟩) (.int .i64 0) (.int .i64 0)
    exact bodyPost_ret (v := .agg #[.int .i64 2, .int .i32 V, .string ⟨#[]⟩, .int .i64 0, .int .i64 0]) (by simp [results, Tryz.results123, go_sem, Y1]) rfl ⟨rfl, bel5 (((Below.refl _ _).alloc (Nat.le_refl _) _).trans (hb1.mono (by simp))) (Nat.le_refl _) _ _ _ _ _⟩
  · have e : numTk s.data.toList = ⟨-1, numE (numOf s.data.toList), []⟩ := by unfold numTk; rw [if_neg hE]
    have hBt := fun w => badToken_any (numE (numOf s.data.toList)) w hbd.1 (by omega)
    rw [e]
    rw [tokV_eq, bs_nil] at hBt ⊢
    clear e
    generalize numV (numOf s.data.toList) = V at *
    generalize numE (numOf s.data.toList) = E at *
    go_enter Tryz.func123, Tryz.ntmps123
    go_wp2_with (first
      | (go_at_call 129; (with_reducible refine (hN _).mono ?_); rintro e w1 ⟨rfl, hb1⟩; have hX := (Has.new w #[.int .i64 0, .int .i32 0, .string ⟨#[]⟩, .int .i64 0, .int .i64 0] 217 rfl).below hb1)
      | (go_at_call 127; (with_reducible refine (hBt _).mono ?_); rintro e w2 ⟨rfl, hb2⟩; have hX2 := hX.below hb2; obtain ⟨x0, X1, x2⟩ := id hX2))
    obtain ⟨y0, Y1, y2⟩ := hX2.set5 (.int .i64 (-1)) (.int .i32 E) (.string ⟨#[]⟩) (.int .i64 0) (.int .i64 0)
    exact bodyPost_ret (v := .agg #[.int .i64 (-1), .int .i32 E, .string ⟨#[]⟩, .int .i64 0, .int .i64 0]) (by simp [results, Tryz.results123, go_sem, Y1]) rfl ⟨rfl, bel5 ((((Below.refl _ _).alloc (Nat.le_refl _) _).trans (hb1.mono (by simp))).trans (hb2.mono (by have := hb1.size; simp at this; omega))) (Nat.le_refl _) _ _ _ _ _⟩

theorem take_extract (s : ByteArray) (n : Nat) : (s.extract 0 n).data.toList = s.data.toList.take n := by rw [Lib.extract_data]; simp

set_option maxRecDepth 100000 in
set_option maxHeartbeats 2000000 in
theorem signToken_any (s : ByteArray) (w : World) (hs : s.size < 4611686018427387904) (hne : 0 < s.size) (hW : Wt w) :
    Calls Tryz.prog 124 #[.string s] w fun e w' => e = .returned (.tuple #[tokV (signTk s.data.toList).1 0 0, .int .i64 ((signTk s.data.toList).2 : Nat)]) ∧ Below w.heap.size w w' := by
  have hsl : s.data.toList.length = s.size := by simp
  have h2 := fun w (h : Wt w) => kindAmong_sg (s.extract 0 2) w h
  have h1 := fun w (h : Wt w) => kindAmong_sg (s.extract 0 1) w h
  have hBt := fun w => badToken_any 21 w (by omega) (by omega)
  rw [tokV_eq, bs_nil] at hBt
  rw [take_extract] at h2 h1
  have hWa := hW.below ((Below.refl w.heap.size w).alloc (Nat.le_refl _) (.cells #[.int .i64 0, .int .i32 0, .string ⟨#[]⟩, .int .i64 0, .int .i64 0] 217)) hW.1
  have g2 := h2 _ hWa
  have g1 := h1 _ hWa
  clear h1 h2
  have hS : signTk s.data.toList = if 2 ≤ s.size ∧ sgK (s.data.toList.take 2) ≠ -1 then (⟨sgK (s.data.toList.take 2), 0, []⟩, 2) else if sgK (s.data.toList.take 1) ≠ -1 then (⟨sgK (s.data.toList.take 1), 0, []⟩, 1) else (⟨-1, 21, []⟩, 0) := by
    unfold signTk; rw [hsl]
  generalize signTk s.data.toList = R at hS ⊢
  generalize sgK (s.data.toList.take 2) = K2 at g2 hS
  generalize sgK (s.data.toList.take 1) = K1 at g1 hS
  have HS : Hid (R = if 2 ≤ s.size ∧ K2 ≠ -1 then (⟨K2, 0, []⟩, 2) else if K1 ≠ -1 then (⟨K1, 0, []⟩, 1) else (⟨-1, 21, []⟩, 0)) := hS
  clear hS hsl hW hWa
  go_enter Tryz.func124, Tryz.ntmps124
  go_wp2
  go_loop [4] (fun tq => ∃ Q : Int, tq = .int .i64 Q ∧ (Q = 2 ∧ 2 ≤ s.size ∨ Q = 1 ∧ ¬ (2 ≤ s.size ∧ K2 ≠ -1) ∨ Q = 0 ∧ ¬ (2 ≤ s.size ∧ K2 ≠ -1) ∧ K1 = -1)) (fun tq => (intOf tq).toNat)
  case atStart =>
    refine ⟨_, rfl, ?_⟩
    rcases Nat.lt_or_ge s.size 2 with h | h
    · right; left; exact ⟨by omega, by omega⟩
    · left; exact ⟨by omega, h⟩
  case round =>
    obtain ⟨Q, rfl, hQ⟩ := hrel
    rcases hQ with ⟨rfl, hq⟩ | ⟨rfl, hq⟩ | ⟨rfl, hq, hq1⟩
    · have hq' : (2 : Int) ≤ (s.size : Int) := by omega
      by_cases hk2 : K2 = -1
      · have HN : Hid (¬ (2 ≤ s.size ∧ K2 ≠ -1)) := by intro h; exact h.2 hk2
        have g2' := g2
        rw [hk2] at g2'
        clear hk2
        go_wp2_with (go_at_call 128; (with_reducible refine g2'.mono ?_); rintro e w1 ⟨rfl, hwe⟩; subst hwe)
        go_round
        case rel => exact ⟨1, by go_num, .inr (.inl ⟨rfl, HN.out⟩)⟩
        case measure => simp [intOf]
      · have HR : Hid (R = (⟨K2, 0, []⟩, 2)) := by
          show _ = _
          rw [HS.out, if_pos ⟨hq, hk2⟩]
        go_wp2_with (go_at_call 128; (with_reducible refine g2.mono ?_); rintro e w1 ⟨rfl, hwe⟩; subst hwe)
        rw [HR.out, tokV_eq, bs_nil]
        exact bodyPost_ret (v := .tuple #[.agg #[.int .i64 K2, .int .i32 0, .string ⟨#[]⟩, .int .i64 0, .int .i64 0], .int .i64 2]) (by simp [results, Tryz.results124, go_sem]) rfl ⟨rfl, (Below.refl _ _).alloc (Nat.le_refl _) _⟩
    · have hq' : (1 : Int) ≤ (s.size : Int) := by omega
      by_cases hk1 : K1 = -1
      · have HN : Hid (¬ (2 ≤ s.size ∧ K2 ≠ -1) ∧ K1 = -1) := ⟨hq, hk1⟩
        have g1' := g1
        rw [hk1] at g1'
        clear hk1 hq
        go_wp2_with (go_at_call 128; (with_reducible refine g1'.mono ?_); rintro e w1 ⟨rfl, hwe⟩; subst hwe)
        go_round
        case rel => exact ⟨0, by go_num, .inr (.inr ⟨rfl, HN.out⟩)⟩
        case measure => simp [intOf]
      · have HR : Hid (R = (⟨K1, 0, []⟩, 1)) := by
          show _ = _
          rw [HS.out, if_neg hq, if_pos hk1]
        clear hq
        go_wp2_with (go_at_call 128; (with_reducible refine g1.mono ?_); rintro e w1 ⟨rfl, hwe⟩; subst hwe)
        rw [HR.out, tokV_eq, bs_nil]
        exact bodyPost_ret (v := .tuple #[.agg #[.int .i64 K1, .int .i32 0, .string ⟨#[]⟩, .int .i64 0, .int .i64 0], .int .i64 1]) (by simp [results, Tryz.results124, go_sem]) rfl ⟨rfl, (Below.refl _ _).alloc (Nat.le_refl _) _⟩
    · have HR : Hid (R = (⟨-1, 21, []⟩, 0)) := by
        show _ = _
        rw [HS.out, if_neg hq, if_neg (by simp [hq1])]
      clear hq hq1
      go_wp2_with (go_at_call 127; (with_reducible refine (hBt _).mono ?_); rintro e w2 ⟨rfl, hb2⟩; have hX2 := (Has.new w #[.int .i64 0, .int .i32 0, .string ⟨#[]⟩, .int .i64 0, .int .i64 0] 217 rfl).below hb2; obtain ⟨x0, X1, x2⟩ := id hX2)
      obtain ⟨y0, Y1, y2⟩ := hX2.set5 (.int .i64 (-1)) (.int .i32 21) (.string ⟨#[]⟩) (.int .i64 0) (.int .i64 0)
      rw [HR.out, tokV_eq, bs_nil]
      exact bodyPost_ret (v := .tuple #[.agg #[.int .i64 (-1), .int .i32 21, .string ⟨#[]⟩, .int .i64 0, .int .i64 0], .int .i64 0]) (by simp [results, Tryz.results124, go_sem, Y1]) rfl ⟨rfl, bel5 (((Below.refl _ _).alloc (Nat.le_refl _) _).trans (hb2.mono (by simp))) (Nat.le_refl _) _ _ _ _ _⟩
end Go.Proofs.YtnicolaphmffkaaGreatDoor
namespace Go.Proofs.YtnicolaphmffkaaGreatDoor
open Go.RowKit
set_option linter.unusedVariables false
set_option linter.unusedSimpArgs false

theorem isR_of_L {c : UInt8} (h : isL c = true) : isR c = true := by rw [isR_iff, h]; rfl
theorem isR_of_D {c : UInt8} (h : isD c = true) : isR c = true := by rw [isR_iff, h]; simp
theorem kw_letter (c : UInt8) (r : List UInt8) (h : isL c = false) : kwK (c :: r) = -1 := by
  rcases kwK_mem (c :: r) with h1 | ⟨_, _, h3⟩
  · exact h1.1
  · have := (kwL_shape _ h3).2.2
    rw [List.all_cons, h] at this; simp at this
theorem sg_run (c : UInt8) (r : List UInt8) (h : isR c = true) : sgK (c :: r) = -1 := by
  rcases sgK_mem (c :: r) with h1 | ⟨_, _, h3⟩
  · exact h1.1
  · have := (sgL_shape _ h3).2
    rw [List.all_cons, h] at this; simp at this
theorem sg_long (l : List UInt8) (h : 2 < l.length) : sgK l = -1 := by
  rcases sgK_mem l with h1 | ⟨_, _, h3⟩
  · exact h1.1
  · have := (sgL_shape _ h3).1; omega
theorem kw_all (l : List UInt8) (h : l.all isR = false) : kwK l = -1 := by
  rcases kwK_mem l with h1 | ⟨_, _, h3⟩
  · exact h1.1
  · have h4 := (kwL_shape _ h3).2.2
    have : l.all isR = true := List.all_eq_true.2 (fun x hx => isR_of_L (List.all_eq_true.1 h4 x hx))
    rw [this] at h; cases h
theorem kw_long (l : List UInt8) (h : 32 < l.length) : kwK l = -1 := by
  rcases kwK_mem l with h1 | ⟨_, _, h3⟩
  · exact h1.1
  · have := (kwL_shape _ h3).1; omega
theorem run_whole (l : List UInt8) (h : (runL l).length = l.length) : runL l = l :=
  (List.takeWhile_prefix isR).eq_of_length h

theorem first_L (c : UInt8) (r : List UInt8) (h : isL c = true) : firstTk (c :: r) = (wordTk (runL (c :: r)), (runL (c :: r)).length) := by
  unfold firstTk
  rw [if_neg (by simp), if_pos (show isL ((c :: r).headD 0) = true from h)]
theorem first_D (c : UInt8) (r : List UInt8) (hL : isL c = false) (h : isD c = true) : firstTk (c :: r) = (numTk (runL (c :: r)), (runL (c :: r)).length) := by
  unfold firstTk
  rw [if_neg (by simp), if_neg (show ¬ isL ((c :: r).headD 0) = true by simp [hL]), if_pos (show isD ((c :: r).headD 0) = true from h)]
theorem first_S (c : UInt8) (r : List UInt8) (hL : isL c = false) (h : isD c = false) : firstTk (c :: r) = signTk (c :: r) := by
  unfold firstTk
  rw [if_neg (by simp), if_neg (show ¬ isL ((c :: r).headD 0) = true by simp [hL]), if_neg (show ¬ isD ((c :: r).headD 0) = true by simp [h])]

theorem kind_first (l : List UInt8) : kindL l = if l = [] ∨ (firstTk l).2 ≠ l.length then -1 else (firstTk l).1.kind := by
  cases l with
  | nil => decide
  | cons c r =>
    have hne : ¬ (c :: r = []) := by simp
    have hall := all_run (c :: r)
    by_cases hL : isL c = true
    · rw [first_L c r hL]
      simp only [hne, false_or]
      have hsg := sg_run c r (isR_of_L hL)
      by_cases hlen : (runL (c :: r)).length = (c :: r).length
      · rw [if_neg (by simp [hlen]), run_whole _ hlen]
        have hall' : (c :: r).all isR = true := by rw [hall]; simpa using hlen
        unfold kindL wordTk restK
        rw [hsg, hall']
        by_cases h32 : 32 < (c :: r).length
        · rw [kw_long _ h32]; simp only [if_pos h32]; simp [hL]
        · by_cases hk : kwK (c :: r) = -1
          · rw [hk]; simp only [if_neg h32]; simp [hL]
          · simp only [if_neg h32, if_neg hk]; simp [hk]
      · rw [if_pos hlen]
        have hall' : (c :: r).all isR = false := by rw [hall]; simpa using hlen
        unfold kindL restK
        rw [hsg, kw_all _ hall', hall']; simp
    · have hLf : isL c = false := by simpa using hL
      have hkw := kw_letter c r hLf
      by_cases hD : isD c = true
      · rw [first_D c r hLf hD]
        simp only [hne, false_or]
        have hsg := sg_run c r (isR_of_D hD)
        by_cases hlen : (runL (c :: r)).length = (c :: r).length
        · rw [if_neg (by simp [hlen]), run_whole _ hlen]
          have hall' : (c :: r).all isR = true := by rw [hall]; simpa using hlen
          unfold kindL restK numTk
          rw [hsg, hkw, hall']
          by_cases hE : numE (numOf (c :: r)) = 0
          · simp [hLf, hE]
          · simp [hLf, hE]
        · rw [if_pos hlen]
          have hall' : (c :: r).all isR = false := by rw [hall]; simpa using hlen
          unfold kindL restK
          rw [hsg, hkw, hall']; simp
      · have hDf : isD c = false := by simpa using hD
        rw [first_S c r hLf hDf]
        simp only [hne, false_or]
        have hrest : restK (c :: r) = -1 := by
          unfold restK
          by_cases ha : (c :: r).all isR = false
          · rw [if_pos (.inr ha)]
          · rw [if_neg (by simp only [hne, false_or]; exact ha)]
            simp only [List.headD_cons, hLf]
            have : numE (numOf (c :: r)) ≠ 0 := by
              have : numOf (c :: r) = none := by unfold numOf; simp [hDf]
              rw [this]; decide
            simp [this]
        have hk : kindL (c :: r) = sgK (c :: r) := by
          unfold kindL
          rw [hkw, hrest]
          by_cases h : sgK (c :: r) = -1
          · simp [h]
          · simp [h]
        rw [hk]
        cases r with
        | nil =>
          have hs : signTk [c] = if sgK [c] ≠ -1 then (⟨sgK [c], 0, []⟩, 1) else (⟨-1, 21, []⟩, 0) := by
            unfold signTk; rw [if_neg (by simp)]; rfl
          rw [hs]
          by_cases h : sgK [c] = -1
          · rw [if_neg (c := sgK [c] ≠ -1) (by simp [h])]; simp [h]
          · rw [if_pos (c := sgK [c] ≠ -1) h]; simp
        | cons d r =>
          cases r with
          | nil =>
            have hs : signTk [c, d] = if sgK [c, d] ≠ -1 then (⟨sgK [c, d], 0, []⟩, 2) else if sgK [c] ≠ -1 then (⟨sgK [c], 0, []⟩, 1) else (⟨-1, 21, []⟩, 0) := by
              unfold signTk
              by_cases h : sgK [c, d] = -1
              · rw [if_neg (fun x => x.2 h), if_neg (c := sgK [c, d] ≠ -1) (by simp [h])]; rfl
              · rw [if_pos ⟨by simp, h⟩, if_pos (c := sgK [c, d] ≠ -1) h]; rfl
            rw [hs]
            by_cases h : sgK [c, d] = -1
            · rw [if_neg (c := sgK [c, d] ≠ -1) (by simp [h])]
              by_cases h1 : sgK [c] = -1
              · rw [if_neg (c := sgK [c] ≠ -1) (by simp [h1])]; simp [h]
              · rw [if_pos (c := sgK [c] ≠ -1) h1]; simp [h]
            · rw [if_pos (c := sgK [c, d] ≠ -1) h]; simp
          | cons e r =>
            have hle : (signTk (c :: d :: e :: r)).2 ≤ 2 := by
              unfold signTk
              split
              · simp
              · split <;> simp
            rw [sg_long _ (by simp), if_pos]
            intro h; rw [h] at hle; simp at hle

set_option maxRecDepth 100000 in
set_option maxHeartbeats 2000000 in
theorem firstToken_any (s : ByteArray) (w : World) (hs : s.size < 4611686018427387904) (hW : Wt w) :
    Calls Tryz.prog 112 #[.string s] w fun e w' => e = .returned (.tuple #[tokV (firstTk s.data.toList).1 0 0, .int .i64 ((firstTk s.data.toList).2 : Nat)]) ∧ Below w.heap.size w w' := by
  by_cases h0 : s.size = 0
  · have he : s = ⟨#[]⟩ := by
      obtain ⟨⟨l⟩⟩ := s
      have : l = [] := by apply List.eq_nil_of_length_eq_zero; exact h0
      subst this; rfl
    subst he
    have e1 : (firstTk (ByteArray.mk #[]).data.toList) = (⟨0, 0, []⟩, 0) := rfl
    rw [e1, tokV_eq, bs_nil]
    clear e1 h0 hs hW
    go_enter Tryz.func112, Tryz.ntmps112
    go_wp2
    exact bodyPost_ret (v := .tuple #[.agg #[.int .i64 0, .int .i32 0, .string ⟨#[]⟩, .int .i64 0, .int .i64 0], .int .i64 0]) (by simp [results, Tryz.results112, go_sem]) rfl ⟨rfl, (Below.refl _ _).alloc (Nat.le_refl _) _⟩
  · have h1 : 0 < s.size := by omega
    have hl := list_cons s h1
    have hne : s.toList.isEmpty = false := by rw [Lib.toList_data, hl]; rfl
    have hLt := fun w => isLetter_any s[0] w
    have hDg := fun w => isDigit_any s[0] w
    have hFr := fun w => firstRun_any s w hs
    have hrun : (s.extract 0 (rEnd s 0)).data.toList = runL s.data.toList := by rw [rEnd_run]; simp
    have hrs : (s.extract 0 (rEnd s 0)).size = (runL s.data.toList).length := by rw [← hrun]; simp
    have hle := rEnd_le s 0 (by omega)
    have hrsz : (s.extract 0 (rEnd s 0)).size < 4611686018427387904 := by simp; omega
    have hWa := hW.below ((Below.refl w.heap.size w).alloc (Nat.le_refl _) (.cells #[.int .i64 0, .int .i32 0, .string ⟨#[]⟩, .int .i64 0, .int .i64 0] 217)) hW.1
    cases hL : isL s[0] with
    | true =>
      have e1 : firstTk s.data.toList = (wordTk (runL s.data.toList), (runL s.data.toList).length) := by rw [hl]; exact first_L _ _ hL
      rw [hL] at hLt
      rw [e1]
      have hWt := wordToken_any (s.extract 0 (rEnd s 0)) _ hrsz hWa
      rw [hrun] at hWt
      rw [← hrs]
      clear e1 hl hrun hrs hL hle
      generalize wordTk (runL s.data.toList) = T at hWt ⊢
      generalize s.extract 0 (rEnd s 0) = X at *
      obtain ⟨k, n, x⟩ := T
      rw [tokV_eq] at hWt ⊢
      generalize bs x = B at hWt ⊢
      go_enter Tryz.func112, Tryz.ntmps112
      go_wp2_with (first
        | (go_at_call 119; (with_reducible refine (hLt _).mono ?_); rintro e w1 ⟨rfl, hwe⟩; subst hwe)
        | (go_at_call 120; (with_reducible refine (hFr _).mono ?_); rintro e w1 ⟨rfl, hwe⟩; subst hwe)
        | (go_at_call 121; (with_reducible refine hWt.mono ?_); rintro e w2 ⟨rfl, hb2⟩; have hX2 := (Has.new w #[.int .i64 0, .int .i32 0, .string ⟨#[]⟩, .int .i64 0, .int .i64 0] 217 rfl).below hb2; obtain ⟨x0, X1, x2⟩ := id hX2))
      obtain ⟨y0, Y1, y2⟩ := hX2.set5 (.int .i64 k) (.int .i32 n) (.string B) (.int .i64 0) (.int .i64 0)
      exact bodyPost_ret (v := .tuple #[.agg #[.int .i64 k, .int .i32 n, .string B, .int .i64 0, .int .i64 0], .int .i64 X.size]) (by simp [results, Tryz.results112, go_sem, Y1]) rfl ⟨rfl, bel5 (((Below.refl _ _).alloc (Nat.le_refl _) _).trans (hb2.mono (by simp))) (Nat.le_refl _) _ _ _ _ _⟩
    | false =>
      rw [hL] at hLt
      cases hD : isD s[0] with
      | true =>
        have e1 : firstTk s.data.toList = (numTk (runL s.data.toList), (runL s.data.toList).length) := by rw [hl]; exact first_D _ _ hL hD
        rw [hD] at hDg
        rw [e1]
        have hWt := fun w => numberToken_any (s.extract 0 (rEnd s 0)) w hrsz
        rw [hrun] at hWt
        rw [← hrs]
        clear e1 hl hrun hrs hL hD hle
        generalize numTk (runL s.data.toList) = T at hWt ⊢
        generalize s.extract 0 (rEnd s 0) = X at *
        obtain ⟨k, n, x⟩ := T
        rw [tokV_eq] at hWt ⊢
        generalize bs x = B at hWt ⊢
        go_enter Tryz.func112, Tryz.ntmps112
        go_wp2_with (first
          | (go_at_call 119; (with_reducible refine (hLt _).mono ?_); rintro e w1 ⟨rfl, hwe⟩; subst hwe)
          | (go_at_call 122; (with_reducible refine (hDg _).mono ?_); rintro e w1 ⟨rfl, hwe⟩; subst hwe)
          | (go_at_call 120; (with_reducible refine (hFr _).mono ?_); rintro e w1 ⟨rfl, hwe⟩; subst hwe)
          | (go_at_call 123; (with_reducible refine (hWt _).mono ?_); rintro e w2 ⟨rfl, hb2⟩; have hX2 := (Has.new w #[.int .i64 0, .int .i32 0, .string ⟨#[]⟩, .int .i64 0, .int .i64 0] 217 rfl).below hb2; obtain ⟨x0, X1, x2⟩ := id hX2))
        obtain ⟨y0, Y1, y2⟩ := hX2.set5 (.int .i64 k) (.int .i32 n) (.string B) (.int .i64 0) (.int .i64 0)
        exact bodyPost_ret (v := .tuple #[.agg #[.int .i64 k, .int .i32 n, .string B, .int .i64 0, .int .i64 0], .int .i64 X.size]) (by simp [results, Tryz.results112, go_sem, Y1]) rfl ⟨rfl, bel5 (((Below.refl _ _).alloc (Nat.le_refl _) _).trans (hb2.mono (by simp))) (Nat.le_refl _) _ _ _ _ _⟩
      | false =>
        have e1 : firstTk s.data.toList = signTk s.data.toList := by
          have := first_S s[0] (s.data.toList.drop 1) hL hD
          rw [← hl] at this; exact this
        rw [hD] at hDg
        rw [e1]
        have hWt := signToken_any s _ hs h1 hWa
        clear e1 hl hrun hrs hL hD hle
        generalize signTk s.data.toList = T at hWt ⊢
        obtain ⟨⟨k, n, x⟩, z⟩ := T
        simp only at hWt ⊢
        rw [tokV_eq] at hWt ⊢
        generalize bs x = B at hWt ⊢
        go_enter Tryz.func112, Tryz.ntmps112
        go_wp2_with (first
          | (go_at_call 119; (with_reducible refine (hLt _).mono ?_); rintro e w1 ⟨rfl, hwe⟩; subst hwe)
          | (go_at_call 122; (with_reducible refine (hDg _).mono ?_); rintro e w1 ⟨rfl, hwe⟩; subst hwe)
          | (go_at_call 124; (with_reducible refine hWt.mono ?_); rintro e w2 ⟨rfl, hb2⟩; have hX2 := (Has.new w #[.int .i64 0, .int .i32 0, .string ⟨#[]⟩, .int .i64 0, .int .i64 0] 217 rfl).below hb2; obtain ⟨x0, X1, x2⟩ := id hX2))
        obtain ⟨y0, Y1, y2⟩ := hX2.set5 (.int .i64 k) (.int .i32 n) (.string B) (.int .i64 0) (.int .i64 0)
        exact bodyPost_ret (v := .tuple #[.agg #[.int .i64 k, .int .i32 n, .string B, .int .i64 0, .int .i64 0], .int .i64 z]) (by simp [results, Tryz.results112, go_sem, Y1]) rfl ⟨rfl, bel5 (((Below.refl _ _).alloc (Nat.le_refl _) _).trans (hb2.mono (by simp))) (Nat.le_refl _) _ _ _ _ _⟩
end Go.Proofs.YtnicolaphmffkaaGreatDoor
namespace Go.Proofs.YtnicolaphmffkaaGreatDoor
open Go.RowKit
set_option linter.unusedVariables false
set_option linter.unusedSimpArgs false

set_option maxRecDepth 100000 in
set_option maxHeartbeats 2000000 in
theorem kindOf_any (s : ByteArray) (w : World) (hs : s.size < 4611686018427387904) (hW : Wt w) :
    Calls Tryz.prog 96 #[.string s] w fun e w' => e = .returned (.int .i64 (kindL s.data.toList)) ∧ Below w.heap.size w w' := by
  have hK := kind_first s.data.toList
  have hF := firstToken_any s w hs hW
  have hsl : s.data.toList.length = s.size := by simp
  rw [hsl] at hK
  have hem : s.toList.isEmpty = decide (s.size = 0) := by
    rw [Lib.toList_data]
    by_cases h : s.size = 0
    · have : s.data.toList = [] := List.eq_nil_of_length_eq_zero (by omega)
      rw [this, h]; rfl
    · rw [list_cons s (by omega)]; simp [h]
  have hnil : (s.data.toList = []) ↔ s.size = 0 := by
    constructor
    · intro h; rw [h] at hsl; simp at hsl; omega
    · intro h; exact List.eq_nil_of_length_eq_zero (by omega)
  generalize kindL s.data.toList = A at hK ⊢
  generalize firstTk s.data.toList = T at hK hF
  obtain ⟨⟨k, n, x⟩, z⟩ := T
  simp only at hK hF
  rw [tokV_eq] at hF
  generalize bs x = B at hF
  have HK : Hid (A = if s.data.toList = [] ∨ z ≠ s.size then -1 else k) := hK
  clear hK hsl
  by_cases h0 : s.size = 0
  · have HA : Hid (A = -1) := by
      show _ = _
      rw [HK.out, if_pos (.inl (hnil.2 h0))]
    have hem' : s.toList.isEmpty = true := by rw [hem]; simp [h0]
    clear hem hnil h0
    go_enter Tryz.func96, Tryz.ntmps96
    go_wp2_with (go_at_call 112; (with_reducible refine hF.mono ?_); rintro e w2 ⟨rfl, hb2⟩)
    go_ret
    exact ⟨ret_int HA.out.symm, (hb2.alloc hb2.size _)⟩
  · have hem' : s.toList.isEmpty = false := by rw [hem]; simp [h0]
    by_cases hz : z = s.size
    · have HA : Hid (A = k) := by
        show _ = _
        rw [HK.out, if_neg]
        rintro (h | h)
        · exact h0 (hnil.1 h)
        · exact h hz
      subst hz
      clear hem hnil h0
      go_enter Tryz.func96, Tryz.ntmps96
      go_wp2_with (go_at_call 112; (with_reducible refine hF.mono ?_); rintro e w2 ⟨rfl, hb2⟩)
      go_ret
      exact ⟨ret_int HA.out.symm, (hb2.alloc hb2.size _)⟩
    · have HA : Hid (A = -1) := by
        show _ = _
        rw [HK.out, if_pos (.inr hz)]
      have hz' : ¬ (z : Int) = (s.size : Int) := by omega
      clear hem hnil h0 hz
      go_enter Tryz.func96, Tryz.ntmps96
      go_wp2_with (go_at_call 112; (with_reducible refine hF.mono ?_); rintro e w2 ⟨rfl, hb2⟩)
      go_ret
      exact ⟨ret_int HA.out.symm, (hb2.alloc hb2.size _)⟩

end Go.Proofs.YtnicolaphmffkaaGreatDoor
