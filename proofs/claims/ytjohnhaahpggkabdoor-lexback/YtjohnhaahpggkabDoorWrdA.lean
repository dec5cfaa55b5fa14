import Derived.Test.YtjohnhaahpggkabDoorWrdM
import Derived.Test.YtjohnhaahpggkabDoorNumN
namespace Go.Proofs.YtjohnhaahpggkabDoor
open Go.RowKit
set_option linter.unusedVariables false

def bs (l : List UInt8) : ByteArray := ⟨l.toArray⟩
theorem bs_toList (l : List UInt8) : (bs l).toList = l := by rw [Lib.toList_data]; rfl
theorem bs_data (s : ByteArray) : bs s.data.toList = s := rfl

/-- The code's table, the reference's two. -/
def Wt (w : World) : Prop := 2 < w.heap.size ∧ ∀ i, i < 78 → w.cell? ⟨2, i, none⟩ = some (.string (bs (wordL i)))
def Kt (w : World) : Prop := 3 < w.heap.size ∧ ∀ i, i < 41 → w.cell? ⟨3, i, none⟩ = some (.string (bs (kwL.getD i [])))
def St (w : World) : Prop := 4 < w.heap.size ∧ ∀ i, i < 18 → w.cell? ⟨4, i, none⟩ = some (.string (bs (sgL.getD i [])))
theorem Wt.below {B : Nat} {w w' : World} (h : Wt w) (hb : Below B w w') (hB : 2 < B) : Wt w' :=
  ⟨Nat.lt_of_lt_of_le h.1 hb.size, fun i hi => (hb.cell (p := ⟨2, i, none⟩) hB).trans (h.2 i hi)⟩
theorem Kt.below {B : Nat} {w w' : World} (h : Kt w) (hb : Below B w w') (hB : 3 < B) : Kt w' :=
  ⟨Nat.lt_of_lt_of_le h.1 hb.size, fun i hi => (hb.cell (p := ⟨3, i, none⟩) hB).trans (h.2 i hi)⟩
theorem St.below {B : Nat} {w w' : World} (h : St w) (hb : Below B w w') (hB : 4 < B) : St w' :=
  ⟨Nat.lt_of_lt_of_le h.1 hb.size, fun i hi => (hb.cell (p := ⟨4, i, none⟩) hB).trans (h.2 i hi)⟩

set_option maxRecDepth 100000 in
set_option maxHeartbeats 1000000 in
theorem kindAmong_kw (s : ByteArray) (w : World) (hW : Wt w) :
    Calls Tryd.prog 53 #[.string s, .int .i64 10, .int .i64 50] w fun e w' => e = .returned (.int .i64 (kwK s.data.toList)) ∧ w' = w := by
  have hA : Hid (look (kwL.drop 0) s.data.toList 10 = kwK s.data.toList) := rfl
  generalize kwK s.data.toList = A at hA ⊢
  have hT : s.toList = s.data.toList := Lib.toList_data s
  go_enter Tryd.func53, Tryd.ntmps53
  go_wp2
  go_loop [7] (fun tk => ∃ (k : Nat) (K : Int), K = (k : Int) + 10 ∧ k ≤ 41 ∧ tk = .int .i64 K ∧ look (kwL.drop k) s.data.toList (k + 10) = A) (fun tk => 10+41 - (intOf tk).toNat)
  case atStart => exact ⟨0, 10, by omega, by omega, rfl, hA.out⟩
  case round =>
    obtain ⟨k, K, hK, hk, rfl, hl⟩ := hrel
    have HL : Hid (look (kwL.drop k) s.data.toList (k + 10) = A) := hl
    have HK : Hid (K = (k : Int) + 10) := hK
    clear hl
    by_cases hlt : k < 41
    · have hc := hW.2 (k + 10) (by omega)
      rw [wordL_kw (k + 10) (by omega) (by omega)] at hc
      have e1 : k + 10 - 10 = k := by omega
      rw [e1] at hc
      have e2 : K.toNat = k + 10 := by omega
      rw [← e2] at hc
      have hS := look_drop kwL s.data.toList k (k + 10) hlt
      have HS : Hid (look (kwL.drop k) s.data.toList (k + 10) = _) := hS
      clear hS e1 e2
      have hb : (bs (kwL.getD k [])).toList = kwL.getD k [] := bs_toList _
      generalize kwL.getD k [] = X at hc hb HS
      have k0 : 0 ≤ K := by omega
      have k1 : K < 78 := by omega
      have k2 : K ≤ 50 := by omega
      by_cases he : X = s.data.toList
      · have hq : ((bs X).toList == s.toList) = true := by rw [hb, hT, he]; simp
        have HR : Hid (A = K) := by
          show _ = _
          rw [← HL.out, HS.out, if_pos he]; omega
        clear hb hT he hK
        go_wp2
        go_ret
        exact ⟨ret_int HR.out.symm, rfl⟩
      · have hq : ((bs X).toList == s.toList) = false := by rw [hb, hT]; simpa using he
        have HR : Hid (look (kwL.drop (k + 1)) s.data.toList (k + 1 + 10) = A) := by
          show _ = _
          rw [← HL.out, HS.out, if_neg he]
        clear hb hT he hK
        go_wp2
        go_round
        case rel => exact ⟨k + 1, K + 1, by have := HK.out; omega, by omega, by go_num, HR.out⟩
        case measure => simp [intOf]; omega
    · have HR : Hid (A = -1) := by
        show _ = _
        rw [← HL.out, look_end kwL _ _ _ (by have : kwL.length = 41 := rfl; omega)]
      have k2 : ¬ K ≤ 50 := by omega
      clear hK
      go_wp2
      go_ret
      exact ⟨ret_int HR.out.symm, rfl⟩

set_option maxRecDepth 100000 in
set_option maxHeartbeats 1000000 in
theorem kindAmong_sg (s : ByteArray) (w : World) (hW : Wt w) :
    Calls Tryd.prog 53 #[.string s, .int .i64 60, .int .i64 77] w fun e w' => e = .returned (.int .i64 (sgK s.data.toList)) ∧ w' = w := by
  have hA : Hid (look (sgL.drop 0) s.data.toList 60 = sgK s.data.toList) := rfl
  generalize sgK s.data.toList = A at hA ⊢
  have hT : s.toList = s.data.toList := Lib.toList_data s
  go_enter Tryd.func53, Tryd.ntmps53
  go_wp2
  go_loop [7] (fun tk => ∃ (k : Nat) (K : Int), K = (k : Int) + 60 ∧ k ≤ 18 ∧ tk = .int .i64 K ∧ look (sgL.drop k) s.data.toList (k + 60) = A) (fun tk => 60+18 - (intOf tk).toNat)
  case atStart => exact ⟨0, 60, by omega, by omega, rfl, hA.out⟩
  case round =>
    obtain ⟨k, K, hK, hk, rfl, hl⟩ := hrel
    have HL : Hid (look (sgL.drop k) s.data.toList (k + 60) = A) := hl
    have HK : Hid (K = (k : Int) + 60) := hK
    clear hl
    by_cases hlt : k < 18
    · have hc := hW.2 (k + 60) (by omega)
      rw [wordL_sg (k + 60) (by omega) (by omega)] at hc
      have e1 : k + 60 - 60 = k := by omega
      rw [e1] at hc
      have e2 : K.toNat = k + 60 := by omega
      rw [← e2] at hc
      have hS := look_drop sgL s.data.toList k (k + 60) hlt
      have HS : Hid (look (sgL.drop k) s.data.toList (k + 60) = _) := hS
      clear hS e1 e2
      have hb : (bs (sgL.getD k [])).toList = sgL.getD k [] := bs_toList _
      generalize sgL.getD k [] = X at hc hb HS
      have k0 : 0 ≤ K := by omega
      have k1 : K < 78 := by omega
      have k2 : K ≤ 77 := by omega
      by_cases he : X = s.data.toList
      · have hq : ((bs X).toList == s.toList) = true := by rw [hb, hT, he]; simp
        have HR : Hid (A = K) := by
          show _ = _
          rw [← HL.out, HS.out, if_pos he]; omega
        clear hb hT he hK
        go_wp2
        go_ret
        exact ⟨ret_int HR.out.symm, rfl⟩
      · have hq : ((bs X).toList == s.toList) = false := by rw [hb, hT]; simpa using he
        have HR : Hid (look (sgL.drop (k + 1)) s.data.toList (k + 1 + 60) = A) := by
          show _ = _
          rw [← HL.out, HS.out, if_neg he]
        clear hb hT he hK
        go_wp2
        go_round
        case rel => exact ⟨k + 1, K + 1, by have := HK.out; omega, by omega, by go_num, HR.out⟩
        case measure => simp [intOf]; omega
    · have HR : Hid (A = -1) := by
        show _ = _
        rw [← HL.out, look_end sgL _ _ _ (by have : sgL.length = 18 := rfl; omega)]
      have k2 : ¬ K ≤ 77 := by omega
      clear hK
      go_wp2
      go_ret
      exact ⟨ret_int HR.out.symm, rfl⟩

/-- What Word answers. -/
def wordA (k : Int) : ByteArray := if 0 ≤ k ∧ k < 78 then bs (wordL k.toNat) else ByteArray.empty

set_option maxRecDepth 100000 in
set_option maxHeartbeats 1000000 in
theorem word_any (k : Int) (w : World) (hW : Wt w) : Calls Tryd.prog 26 #[.int .i64 k] w fun e w' => e = .returned (.string (wordA k)) ∧ w' = w := by
  by_cases h : 0 ≤ k ∧ k < 78
  · have e : wordA k = bs (wordL k.toNat) := by unfold wordA; rw [if_pos h]
    obtain ⟨h1, h2⟩ := h
    have hc := hW.2 k.toNat (by omega)
    rw [e]
    generalize bs (wordL k.toNat) = X at hc ⊢
    have h1' : ¬ k < 0 := by omega
    clear e
    go_enter Tryd.func26, Tryd.ntmps26
    go_wp2
    go_ret
    exact ⟨rfl, rfl⟩
  · have e : wordA k = ByteArray.empty := by unfold wordA; rw [if_neg h]
    rw [e]
    clear e
    by_cases h1 : k < 0
    · clear h
      go_enter Tryd.func26, Tryd.ntmps26
      go_wp2
      go_ret
      exact ⟨rfl, rfl⟩
    · have h2 : (78 : Int) ≤ k := by omega
      clear h
      go_enter Tryd.func26, Tryd.ntmps26
      go_wp2
      go_ret
      exact ⟨rfl, rfl⟩

set_option maxRecDepth 100000 in
set_option maxHeartbeats 1000000 in
theorem refWord_any (k : Int) (w : World) (hK : Kt w) (hS : St w) : Calls Tryd.prog 34 #[.int .i64 k] w fun e w' => e = .returned (.string (wordA k)) ∧ w' = w := by
  by_cases h : 10 ≤ k ∧ k < 51
  · have e : wordA k = bs (kwL.getD (k - 10).toNat []) := by
      unfold wordA; rw [if_pos (by omega), wordL_kw _ (by omega) (by omega)]
      have : k.toNat - 10 = (k - 10).toNat := by omega
      rw [this]
    obtain ⟨h1, h2⟩ := h
    have hc := hK.2 (k - 10).toNat (by omega)
    rw [e]
    generalize bs (kwL.getD (k - 10).toNat []) = X at hc ⊢
    have h3 : 0 ≤ k - 10 := by omega
    have h4 : k - 10 < 41 := by omega
    clear e
    go_enter Tryd.func34, Tryd.ntmps34
    go_wp2
    go_ret
    exact ⟨rfl, rfl⟩
  · by_cases h6 : 60 ≤ k ∧ k < 78
    · have e : wordA k = bs (sgL.getD (k - 60).toNat []) := by
        unfold wordA; rw [if_pos (by omega), wordL_sg _ (by omega) (by omega)]
        have : k.toNat - 60 = (k - 60).toNat := by omega
        rw [this]
      obtain ⟨h1, h2⟩ := h6
      have hc := hS.2 (k - 60).toNat (by omega)
      rw [e]
      generalize bs (sgL.getD (k - 60).toNat []) = X at hc ⊢
      have h3 : 0 ≤ k - 60 := by omega
      have h4 : k - 60 < 18 := by omega
      have h5 : 10 ≤ k := by omega
      have h7 : ¬ k < 51 := by omega
      clear e h
      go_enter Tryd.func34, Tryd.ntmps34
      go_wp2
      go_ret
      exact ⟨rfl, rfl⟩
    · have e : wordA k = ByteArray.empty := by
        unfold wordA
        split
        · rw [wordL_no _ (by omega) (by omega)]; rfl
        · rfl
      rw [e]
      clear e
      have hcs : k < 10 ∨ (10 ≤ k ∧ 51 ≤ k ∧ k < 60) ∨ (10 ≤ k ∧ 51 ≤ k ∧ 60 ≤ k ∧ 78 ≤ k) := by omega
      clear h h6
      rcases hcs with h1 | ⟨h1, h2, h3⟩ | ⟨h1, h2, h3, h4⟩
      · have h60 : k < 60 := by omega
        go_enter Tryd.func34, Tryd.ntmps34
        go_wp2
        go_ret
        exact ⟨rfl, rfl⟩
      · go_enter Tryd.func34, Tryd.ntmps34
        go_wp2
        go_ret
        exact ⟨rfl, rfl⟩
      · go_enter Tryd.func34, Tryd.ntmps34
        go_wp2
        go_ret
        exact ⟨rfl, rfl⟩
end Go.Proofs.YtjohnhaahpggkabDoor
