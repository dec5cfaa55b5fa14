import Derived.Test.YtjohnhaahpggkabDoorJnC
import Derived.Laws.IdiomStrings
namespace Go.Proofs.YtjohnhaahpggkabDoor
open Go.RowKit
set_option linter.unusedVariables false
set_option linter.unusedSimpArgs false

def dgt (d : Nat) : UInt8 := UInt8.ofNat (48 + d)
theorem dec_small {n : Nat} (h : n < 10) : Lib.decDigits n = [dgt n] := by rw [Lib.decDigits, dif_pos h]; rfl
theorem dec_big {n : Nat} (h : ¬ n < 10) : Lib.decDigits n = Lib.decDigits (n / 10) ++ [dgt (n % 10)] := by rw [Lib.decDigits, dif_neg h]; rfl
theorem dec_len (n : Nat) : 1 ≤ (Lib.decDigits n).length ∧ (Lib.decDigits n).length ≤ n + 1 := by
  induction n using Nat.strongRecOn with
  | ind n ih =>
    by_cases h : n < 10
    · rw [dec_small h]; simp
    · rw [dec_big h]
      have := ih (n / 10) (by omega)
      simp; omega
theorem conv_one (w : World) (x : Int) (h0 : 0 ≤ x) (h1 : x < 256) : (convert 48 9 (.slice (some ⟨w.heap.size, 0, none⟩) 1 1)).run Tryd.prog (w.alloc (.cells #[.int .u8 x] 5)) = .ok (.string ⟨#[UInt8.ofNat x.toNat]⟩) (w.alloc (.cells #[.int .u8 x] 5)) := by
  have := run_convert_bytes_back (P := Tryd.prog) (w.alloc (.cells #[.int .u8 x] 5)) 48 9 5 ⟨w.heap.size, 0, none⟩ 1 [UInt8.ofNat x.toNat] und48 und5 und9 (by
    intro j hj
    obtain rfl : j = 0 := by simpa using hj
    have := (Has.new w #[.int .u8 x] 5 rfl).2.1 0
    have e : ((⟨w.heap.size, 0, none⟩ : Addr).add 0) = ⟨w.heap.size, 0, none⟩ := rfl
    rw [e, this]
    have hx : ((UInt8.ofNat x.toNat).toNat : Int) = x := by simp [UInt8.toNat_ofNat']; omega
    simp; omega)
  exact this
theorem dgt_of (m : Nat) : UInt8.ofNat (48 + (m : Int) % 10).toNat = dgt (m % 10) := by
  unfold dgt; congr 1
attribute [local go_sem] conv_one

set_option maxRecDepth 100000 in
set_option maxHeartbeats 2000000 in
theorem dec32_any (n : Nat) (w : World) (hn : n ≤ 2147483647) :
    Calls Tryd.prog 33 #[.int .i32 n] w fun e w' => e = .returned (.string (bs (Lib.decDigits n))) ∧ Below w.heap.size w w' := by
  by_cases hz : n = 0
  · subst hz
    have hF : bs (Lib.decDigits 0) = ⟨#[48]⟩ := by rw [dec_small (by omega)]; rfl
    rw [hF]
    go_enter Tryd.func33, Tryd.ntmps33
    go_wp2
    go_ret
    exact ⟨rfl, Below.refl _ _⟩
  · have hz' : ¬ (n : Int) = 0 := by omega
    go_enter Tryd.func33, Tryd.ntmps33
    go_wp2
    go_loopw [0, 3] (fun t0 t3 wr => ∃ (m : Nat) (S : List UInt8), m ≤ n ∧ t0 = .int .i32 (m : Int) ∧ t3 = .string (bs S) ∧ S.length ≤ n + 1 ∧ ((m = 0 ∧ S = Lib.decDigits n) ∨ (0 < m ∧ Lib.decDigits m ++ S = Lib.decDigits n)) ∧ Below w.heap.size w wr) (fun t _ _ => (intOf t).toNat)
    case atStart => exact ⟨n, [], by omega, rfl, rfl, by simp, .inr ⟨by omega, by simp⟩, Below.refl _ _⟩
    case round =>
      obtain ⟨m, S, hm, rfl, rfl, hl, hS, hb9⟩ := hrel
      by_cases h0 : m = 0
      · subst h0
        obtain ⟨_, hS⟩ := hS.resolve_right (by omega)
        subst hS
        go_wp2
        go_ret
        exact ⟨rfl, hb9⟩
      · obtain ⟨_, hS⟩ := hS.resolve_left (by omega)
        have hm0 : (0 : Int) < (m : Int) := by omega
        have ha' : (0 : Int) ≤ 48 + (m : Int) % 10 := by omega
        have hb' : 48 + (m : Int) % 10 < 256 := by omega
        have hd' := dgt_of m
        have hbz := hb9.size
        have hcat : (⟨#[dgt (m % 10)]⟩ : ByteArray) ++ bs S = bs (dgt (m % 10) :: S) := by
          unfold bs; rfl
        have hsz : ¬ 9223372036854775807 < 1 + (bs S).size := by rw [bs_sz]; omega
        go_wp2
        go_roundw
        case rel =>
          have hlS : (Lib.decDigits m).length + S.length ≤ n + 1 := by
            have h1 := congrArg List.length hS
            have h2 := (dec_len n).2
            rw [List.length_append] at h1; omega
          have hm1 := (dec_len m).1
          refine ⟨m / 10, dgt (m % 10) :: S, by omega, by go_num, rfl, by simp; omega, ?_, hb9.alloc (by omega) _⟩
          by_cases h : m < 10
          · left; exact ⟨by omega, by rw [← hS, dec_small h, Nat.mod_eq_of_lt h]; rfl⟩
          · right; exact ⟨by omega, by rw [← hS, dec_big h, List.append_assoc]; rfl⟩
        case measure => simp [intOf]; omega
end Go.Proofs.YtjohnhaahpggkabDoor
