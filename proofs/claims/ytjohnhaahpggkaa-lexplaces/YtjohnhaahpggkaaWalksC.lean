import Derived.Test.YtjohnhaahpggkaaWalksA
namespace Go.Proofs.Ytjohnhaahpggkaa
open Go.RowKit
set_option linter.unusedVariables false

theorem ret_str {a b : ByteArray} (h : a = b) : Ending.returned (.string a) = .returned (.string b) := by rw [h]

set_option maxRecDepth 100000 in
set_option maxHeartbeats 1000000 in
theorem refLine_any (s : ByteArray) (line : Int) (w : World) (hs : s.size < 4611686018427387904) :
    Calls Try.prog 7 #[.string s, .int .i64 line] w fun e w' => e = .returned (.string (lineOf s line)) ∧ w' = w := by
  have hst := Rest.start s line
  generalize lineOf s line = A at hst ⊢
  have hst' : Hid (Rest s line A 1 0) := hst
  clear hst
  go_enter Try.func7, Try.ntmps7
  go_wp2
  go_loop [5, 6, 7] (fun tn tb ti => ∃ n b k : Nat, 1 ≤ n ∧ n ≤ k + 1 ∧ b ≤ k ∧ k ≤ s.size + 1 ∧ tn = .int .i64 n ∧ tb = .int .i64 b ∧ ti = .int .i64 k ∧ (∀ j (hj : j < s.size), b ≤ j → j < k → ¬ s[j] = 10) ∧ (k ≤ s.size → Rest s line A n b) ∧ (s.size < k → A = ByteArray.empty)) (fun _ _ ti => s.size + 1 - (intOf ti).toNat)
  case atStart => exact ⟨1, 0, 0, Nat.le_refl _, by omega, by omega, by omega, rfl, rfl, rfl, fun j hj h1 h2 => by omega, fun _ => hst'.out, fun h => by omega⟩
  case round =>
    obtain ⟨n, b, k, hn1, hn2, hbk, hk, rfl, rfl, rfl, hf, hR, hE⟩ := hrel
    have HF : Hid (∀ j (hj : j < s.size), b ≤ j → j < k → ¬ s[j] = 10) := hf
    have HR : Hid (k ≤ s.size → Rest s line A n b) := hR
    have HE : Hid (s.size < k → A = ByteArray.empty) := hE
    clear hf hR hE
    by_cases hlt : k < s.size
    · by_cases h10 : (s[k].toNat : Int) = 10
      · have e10 : Hid (s[k] = 10) := (ten_iff _).1 h10
        by_cases hl : (n : Int) = line
        · subst hl
          have hA : Hid _ := (HR.out (by omega)).hit rfl hbk hlt HF.out e10.out
          by_cases hbk2 : b < k
          · by_cases h13 : (s[k - 1].toNat : Int) = 13
            · have hA2 : Hid (A = s.extract b (k - 1)) := by
                show A = _
                rw [show A = _ from hA, dif_pos hbk2, if_pos ((thirteen_iff _).1 h13)]
              clear hA
              have q1 : (b : Int) ≤ (k : Int) - 1 := by omega
              have q2 : (k : Int) - 1 ≤ (s.size : Int) := by omega
              have q3 : (0 : Int) ≤ (k : Int) - 1 := by omega
              have q4 : ((k : Int) - 1).toNat = k - 1 := by omega
              go_wp2
              go_ret
              exact ⟨ret_str (by rw [hA2.out]), rfl⟩
            · have hA2 : Hid (A = s.extract b k) := by
                show A = _
                rw [show A = _ from hA, dif_pos hbk2, if_neg (fun c => h13 ((thirteen_iff _).2 c))]
              clear hA
              go_wp2
              go_ret
              exact ⟨ret_str (by rw [hA2.out]), rfl⟩
          · have hA2 : Hid (A = s.extract b k) := by
              show A = _
              rw [show A = _ from hA, dif_neg hbk2]
            clear hA
            go_wp2
            go_ret
            exact ⟨ret_str (by rw [hA2.out]), rfl⟩
        · go_wp2
          go_round
          case rel => exact ⟨n + 1, k + 1, k + 1, by omega, by omega, by omega, by omega, by go_num, by go_num, by go_num, fun j hj h1 h2 => by omega, fun _ => (HR.out (by omega)).next hl hbk hlt HF.out e10.out, fun h => by omega⟩
          case measure => simp [intOf]; omega
      · go_wp2
        go_round
        case rel => exact ⟨n, b, k + 1, by omega, by omega, by omega, by omega, rfl, rfl, by go_num, fun j hj h1 h2 => by
          by_cases e : j = k
          · subst e; exact fun c => h10 ((ten_iff _).2 c)
          · exact HF.out j hj h1 (by omega), fun _ => HR.out (by omega), fun h => by omega⟩
        case measure => simp [intOf]; omega
    · by_cases hk2 : k = s.size
      · subst hk2
        by_cases hl : (n : Int) = line
        · subst hl
          have hA : Hid (A = s.extract b s.size) := (HR.out (by omega)).last rfl hbk HF.out
          go_wp2
          go_ret
          exact ⟨ret_str (by rw [hA.out]), rfl⟩
        · go_wp2
          go_round
          case rel => exact ⟨n + 1, s.size + 1, s.size + 1, by omega, by omega, by omega, by omega, by go_num, by go_num, by go_num, fun j hj h1 h2 => by omega, fun h => by omega, fun _ => (HR.out (by omega)).none hl hbk HF.out⟩
          case measure => simp [intOf]
      · go_wp2
        go_ret
        exact ⟨ret_str (HE.out (by omega)).symm, rfl⟩
end Go.Proofs.Ytjohnhaahpggkaa
