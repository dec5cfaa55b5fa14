import Derived.Test.YtbgfeogigjjmdaaDoorHas
import Derived.Test.YtbgfeogigjjmdaaDoorCrM
import Derived.Laws.BitsAllLaws
namespace Go.Proofs.YtbgfeogigjjmdaaDoor
open Go.RowKit
set_option linter.unusedVariables false

/-- The table of remainders stands in its block. -/
def RemOk (w : World) : Prop := ∀ i : Nat, i < 16 → w.cell? ⟨0, i, none⟩ = some (.int .u32 ((Crc.tab.getD i 0 : Nat) : Int))
/-- Bytes as they are read: nothing is known of the address where there are none. -/
def Bs (w : World) (a : Option Addr) (L : List Nat) : Prop := (∀ x ∈ L, x < 256) ∧ (L = [] ∨ ∃ b o, a = some ⟨b, o, none⟩ ∧ b < w.heap.size ∧ ∀ i, i < L.length → w.cell? ⟨b, o + i, none⟩ = some (.int .u8 ((L.getD i 0 : Nat) : Int)))
theorem Bs.cell {w : World} {a : Option Addr} {L : List Nat} (h : Bs w a L) (hp : 0 < L.length) : ∃ b o, a = some ⟨b, o, none⟩ ∧ b < w.heap.size ∧ ∀ i, i < L.length → w.cell? ⟨b, o + i, none⟩ = some (.int .u8 ((L.getD i 0 : Nat) : Int)) := by
  rcases h.2 with rfl | h
  · simp at hp
  · exact h
theorem Bs.lt {w : World} {a : Option Addr} {L : List Nat} (h : Bs w a L) (i : Nat) : L.getD i 0 < 256 := by
  rcases Nat.lt_or_ge i L.length with hi | hi
  · rw [List.getD_eq_getElem?_getD, List.getElem?_eq_getElem hi]; exact h.1 _ (List.getElem_mem hi)
  · rw [List.getD_eq_getElem?_getD, List.getElem?_eq_none hi]; decide
theorem sum_step (L : List Nat) (s k : Nat) (hk : k < L.length) : Crc.sumF s (L.take (k + 1)) = Crc.f8 (Crc.sumF s (L.take k) ^^^ L.getD k 0) := by
  rw [Crc.sumF_take L s k hk, List.getD_eq_getElem?_getD, List.getElem?_eq_getElem hk]; rfl
theorem f8_tab (s : Nat) : Crc.f8 s = (s / 16 ^^^ Crc.tab.getD (s % 16) 0) / 16 ^^^ Crc.tab.getD ((s / 16 ^^^ Crc.tab.getD (s % 16) 0) % 16) 0 := by
  unfold Crc.f8; rw [Crc.f4_tab s, Crc.f4_tab]



theorem xor_u32 (a b c : Nat) (ha : a < 4294967296) (hb : b < 4294967296) (h : c = a ^^^ b) : bits .xor .u32 (a : Int) (b : Int) = (c : Int) := by rw [u32_xor_nat a b ha hb, h]
/-- What half a byte does to the sum, as the walk spells it. -/
theorem half_facts (w : World) (hT : RemOk w) (X : Nat) (hX : X < 4294967296) : ∃ r t Y : Nat, r < 16 ∧ Y < 4294967296 ∧ bits .and .u32 (X : Int) 15 = (r : Int) ∧ w.cell? ⟨0, r, none⟩ = some (.int .u32 (t : Int)) ∧ bits .xor .u32 ((X : Int) / 16) (t : Int) = (Y : Int) ∧ Y = X / 16 ^^^ Crc.tab.getD (X % 16) 0 := by
  have ht := Crc.tab_lt (X % 16)
  refine ⟨X % 16, Crc.tab.getD (X % 16) 0, _, by omega, Crc.xor_lt (by omega) ht, ?_, hT _ (by omega), ?_, rfl⟩
  · rw [show (15 : Int) = ((15 : Nat) : Int) from rfl, u32_and_nat X 15 hX (by decide), Go.nat_mask4]
  · rw [show (X : Int) / 16 = ((X / 16 : Nat) : Int) by simp]
    exact xor_u32 _ _ _ (by omega) ht rfl
theorem not_u32 (a : Nat) (ha : a < 4294967296) : bits .xor .u32 IntKind.u32.max (a : Int) = ((a ^^^ 4294967295 : Nat) : Int) := by
  rw [show IntKind.u32.max = ((4294967295 : Nat) : Int) by decide, Nat.xor_comm]
  exact xor_u32 _ _ _ (by decide) ha rfl

set_option maxRecDepth 100000 in
set_option maxHeartbeats 2000000 in
theorem sum_any (a : Option Addr) (cap : Nat) (L : List Nat) (w : World) (hn : L.length ≤ 9223372036854775807) (hB : Bs w a L) (hT : RemOk w) :
    Calls Tryd.prog 4 #[.slice a L.length cap] w fun e w' => e = .returned (.int .u32 ((Crc.crc L : Nat) : Int)) ∧ w = w' := by
  have hB' : Hid (Bs w a L) := hB
  have hT' : Hid (RemOk w) := hT
  clear hB hT
  go_enter Tryd.func4, Tryd.ntmps4
  go_wp2
  go_loopg [3, 8] L.length (fun gk s i wr => ∃ (k S : Nat), k + gk = L.length ∧ i = .int .i64 k ∧ s = .int .u32 (S : Int) ∧ S < 4294967296 ∧ Hid (S = Crc.sumF 4294967295 (L.take k)) ∧ w = wr)
  case atStart => exact ⟨0, 4294967295, by omega, rfl, rfl, by omega, rfl, rfl⟩
  case round =>
    obtain ⟨k, S, hk, rfl, rfl, hS, hE, rfl⟩ := hrel
    by_cases hlt : k < L.length
    · obtain ⟨b, o, rfl, hb, hc⟩ := hB'.out.cell (by omega)
      have e1 := hc k hlt
      have hx := hB'.out.lt k
      have hst : Hid (Crc.sumF 4294967295 (L.take (k + 1)) = Crc.f8 (S ^^^ L.getD k 0)) := by
        show _ = _
        rw [sum_step L _ k hlt, ← hE.out]
      clear hc
      generalize L.getD k 0 = x at e1 hx hst
      have hk0 : (0 : Int) ≤ (k : Int) := by omega
      have hk1 : (k : Int) < (L.length : Int) := by omega
      have hX : S ^^^ x < 4294967296 := Crc.xor_lt hS (by omega)
      have q0 : bits .xor .u32 (S : Int) (x : Int) = ((S ^^^ x : Nat) : Int) := xor_u32 _ _ _ hS (by omega) rfl
      generalize S ^^^ x = X at hX hst q0
      obtain ⟨r, t, Y, hr, hY, q1, c1, q2, hYe⟩ := half_facts w hT'.out X hX
      obtain ⟨r', t', Z, hr', hZ, q3, c2, q4, hZe⟩ := half_facts w hT'.out Y hY
      have hst' : Hid (Z = Crc.sumF 4294967295 (L.take (k + 1))) := by
        show _ = _
        rw [hst.out, f8_tab, ← hYe, ← hZe]
      clear hst hYe hZe
      have r0 : (0 : Int) ≤ (r : Int) := by omega
      have r1 : (r : Int) < 16 := by omega
      have r2 : (0 : Int) ≤ (r' : Int) := by omega
      have r3 : (r' : Int) < 16 := by omega
      go_wp2
      go_roundg (gk - 1)
      case measure => go_light; omega
      case rel => exact ⟨k + 1, Z, by omega, by go_num, rfl, hZ, hst', rfl⟩
    · obtain rfl : k = L.length := by omega
      have hk1 : ¬ (L.length : Int) < (L.length : Int) := by omega
      have hfin : Hid (Crc.crc L = S ^^^ 4294967295) := by
        show _ = _
        unfold Crc.crc
        rw [hE.out, List.take_length]
      go_wp2
      go_ret
      exact ⟨ret_int (by rw [not_u32 S hS, hfin.out]), rfl⟩
end Go.Proofs.YtbgfeogigjjmdaaDoor
