import Derived.Test.YtcehnibfmhbeiabDoorWalksC
import Derived.Deep.LoopGhost
import Derived.WalkLawsBesides
import Derived.Lib.AppendIntMem
import Derived.Laws.IdiomStrings
import Derived.WideShapes
namespace Go.Proofs.YtcehnibfmhbeiabDoor
open Go.RowKit
set_option linter.unusedVariables false

set_option maxRecDepth 100000 in
set_option maxHeartbeats 1000000 in
theorem text_any (n : Int) (w : World) (h1 : -2147483648 ≤ n) (h2 : n ≤ 2147483647) (htab : Lib.TabIs Tryd.prog w "internal/strconv.uint64pow10" .u64 Lib.pow10Tab) :
    Calls Tryd.prog 6 #[.int .i32 n] w fun e w' => e = .returned (.string ⟨(Lib.itoa n).toArray⟩) ∧ Below w.heap.size w w' := by
  have hit := Tryd.strconv_Itoa n (by omega) (by omega) w htab
  clear htab
  go_enter Tryd.func6, Tryd.ntmps6
  go_wp2_with (go_at_call 11; refine hit.mono ?_; rintro e w1 ⟨rfl, hw⟩)
  go_ret
  obtain ⟨k, os, rfl⟩ := hw
  exact ⟨rfl, Lib.below_grow _ _ (Nat.le_refl _) _ _⟩

set_option maxHeartbeats 400000 in
theorem size_any (x : Int) (w : World) (h1 : -2147483648 ≤ x) (h2 : x ≤ 2147483647) : Calls Tryd.prog 12 #[.int .i64 x] w fun e w' => e = .returned (.int .i64 (x.natAbs : Nat)) ∧ w' = w := by
  have ret_int : ∀ {a b : Int}, a = b → Ending.returned (.int .i64 a) = .returned (.int .i64 b) := fun h => by rw [h]
  by_cases h : x < 0
  all_goals
    go_enter Tryd.func12, Tryd.ntmps12
    go_wp2
    go_ret
    exact ⟨ret_int (by omega), rfl⟩

theorem decDigits_len : ∀ (k u : Nat), u < 10 ^ (k + 1) → (Lib.decDigits u).length ≤ k + 1
  | 0, u, h => by rw [decDigits_small u (by simpa using h)]; simp
  | k + 1, u, h => by
    by_cases hu : u < 10
    · rw [decDigits_small u hu]; simp
    · have hp : 10 ^ (k + 1 + 1) = 10 ^ (k + 1) * 10 := Nat.pow_succ 10 (k + 1)
      have := decDigits_len k (u / 10) (by omega)
      rw [decDigits_step u (by omega)]; simp; omega
theorem app_list (b : UInt8) (x : ByteArray) : ((⟨#[b]⟩ : ByteArray) ++ x).data.toList = b :: x.data.toList := by simp
theorem byte_nat (m : Nat) : (UInt8.ofNat (48 + m % 10)).toNat = 48 + m % 10 := UInt8.toNat_ofNat_of_lt' (by show _ < 256; omega)
theorem conv_one (m : Nat) (w : World) : (convert 34 9 (.slice (some ⟨w.heap.size, 0, none⟩) 1 1)).run Tryd.prog (w.alloc (.cells #[.int .u8 (48 + (m : Int) % 10)] 5)) =
    .ok (.string ⟨#[UInt8.ofNat (48 + m % 10)]⟩) (w.alloc (.cells #[.int .u8 (48 + (m : Int) % 10)] 5)) := by
  refine run_convert_bytes_back (w.alloc (.cells #[.int .u8 (48 + (m : Int) % 10)] 5)) 34 9 5 ⟨w.heap.size, 0, none⟩ 1 [UInt8.ofNat (48 + m % 10)] Tryd.underlying34 Tryd.underlying5 Tryd.underlying9 ?_
  intro j hj
  obtain rfl : j = 0 := by simpa using hj
  rw [show (⟨w.heap.size, 0, none⟩ : Addr).add 0 = ⟨w.heap.size, 0, none⟩ from rfl]
  rw [World.cell?_alloc_new]
  show some _ = some (Value.int .u8 ((UInt8.ofNat (48 + m % 10)).toNat : Int))
  rw [byte_nat]
  congr 2
theorem itoa_of (n : Int) (x : ByteArray) (h : x.data.toList = Lib.itoa n) : x = ⟨(Lib.itoa n).toArray⟩ := by
  apply WideShapes.bytes_inj; rw [h]
theorem ret_str {a b : ByteArray} (h : a = b) : Ending.returned (.string a) = .returned (.string b) := by rw [h]

set_option maxRecDepth 100000 in
set_option maxHeartbeats 1000000 in
theorem refText_any (n : Int) (w : World) (h1 : -2147483648 ≤ n) (h2 : n ≤ 2147483647) (h0 : n ≠ 0) (hz : (n == 0) = false) :
    Calls Tryd.prog 7 #[.int .i32 n] w fun e w' => e = .returned (.string ⟨(Lib.itoa n).toArray⟩) ∧ Below w.heap.size w w' := by
  have hsz : ∀ w, Calls Tryd.prog 12 #[.int .i64 n] w fun e w' => e = .returned (.int .i64 (n.natAbs : Nat)) ∧ w = w' := fun w => (size_any n w h1 h2).mono fun _ _ h => ⟨h.1, h.2.symm⟩
  have hU : 0 < n.natAbs := by omega
  have hUb : n.natAbs ≤ 2147483648 := by omega
  have hit : Hid (Lib.itoa n = if n < 0 then 45 :: Lib.decDigits n.natAbs else Lib.decDigits n.natAbs) := by
    show _ = _
    unfold Lib.itoa
    by_cases hn : n < 0
    · rw [if_pos hn, if_pos hn]
    · rw [if_neg hn, if_neg hn, show n.toNat = n.natAbs by omega]
  have hlen : Hid ((Lib.decDigits n.natAbs).length ≤ 10) := decDigits_len 9 _ (Nat.lt_of_le_of_lt hUb (by decide))
  generalize hUe : n.natAbs = U at hsz hU hUb hit hlen
  clear hUe
  go_enter Tryd.func7, Tryd.ntmps7
  go_wp2_with (go_at_call 12; refine (hsz _).mono ?_; rintro e w' ⟨rfl, rfl⟩)
  go_loopg [3, 4] U (fun gk lf ss wr => ∃ (m : Nat) (x : ByteArray), m ≤ gk ∧ m ≤ U ∧ lf = .int .i64 m ∧ ss = .string x ∧ Below w.heap.size w wr ∧ ((m = 0 ∧ x.data.toList = Lib.decDigits U) ∨ (0 < m ∧ Lib.decDigits U = Lib.decDigits m ++ x.data.toList)))
  case atStart => exact ⟨U, ⟨#[]⟩, Nat.le_refl _, Nat.le_refl _, rfl, rfl, Below.refl _ _, .inr ⟨hU, by simp⟩⟩
  case round =>
    obtain ⟨m, x, hm, hmU, rfl, rfl, hB, hdig⟩ := hrel
    have hx : x.size ≤ 10 := by
      have h := hlen.out
      rw [Lib.size_eq]
      rcases hdig with ⟨_, e⟩ | ⟨_, e⟩
      · rw [e]; exact h
      · rw [e] at h; simp at h ⊢; omega
    have hdig' : Hid ((m = 0 ∧ x.data.toList = Lib.decDigits U) ∨ (0 < m ∧ Lib.decDigits U = Lib.decDigits m ++ x.data.toList)) := hdig
    clear hdig
    by_cases hp : 0 < m
    · have hcv := conv_one m wr
      generalize hby : (⟨#[UInt8.ofNat (48 + m % 10)]⟩ : ByteArray) = y at hcv
      have hy : y.size ≤ 10 := by rw [← hby]; show (1 : Nat) ≤ 10; decide
      have hby' : Hid (y = ⟨#[UInt8.ofNat (48 + m % 10)]⟩) := hby.symm
      clear hby
      go_wp2
      go_roundg (m / 10)
      case measure => omega
      case rel =>
        have e1 := (hdig'.out.resolve_left (by omega)).2
        have e2 : (y ++ x).data.toList = UInt8.ofNat (48 + m % 10) :: x.data.toList := by rw [hby'.out]; exact app_list _ _
        refine ⟨m / 10, y ++ x, Nat.le_refl _, by omega, by push_cast; rfl, rfl, hB.alloc hB.size _, ?_⟩
        by_cases h10 : 10 ≤ m
        · right
          refine ⟨by omega, ?_⟩
          rw [e1, decDigits_step m h10, e2]; simp
        · left
          refine ⟨by omega, ?_⟩
          rw [e1, decDigits_small m (by omega), e2, show m % 10 = m by omega]; rfl
    · have hxe : Hid (x.data.toList = Lib.decDigits U) := (hdig'.out.resolve_right (by omega)).2
      obtain rfl : m = 0 := by omega
      by_cases hn : n < 0
      · have hfin : Hid (((⟨#[45]⟩ : ByteArray) ++ x) = ⟨(Lib.itoa n).toArray⟩) := itoa_of n _ (by rw [app_list, hxe.out, hit.out, if_pos hn])
        clear hit hxe hdig' hlen
        go_wp2
        go_ret
        exact ⟨ret_str hfin.out, hB⟩
      · have hfin : Hid (x = ⟨(Lib.itoa n).toArray⟩) := itoa_of n _ (by rw [hxe.out, hit.out, if_neg hn])
        clear hit hxe hdig' hlen
        go_wp2
        go_ret
        exact ⟨ret_str hfin.out, hB⟩

set_option maxHeartbeats 400000 in
theorem refText_zero (w : World) : Calls Tryd.prog 7 #[.int .i32 0] w fun e w' => e = .returned (.string ⟨(Lib.itoa 0).toArray⟩) ∧ Below w.heap.size w w' := by
  have hfin : (⟨#[48]⟩ : ByteArray) = ⟨(Lib.itoa 0).toArray⟩ := itoa_of 0 _ (by unfold Lib.itoa; rw [if_neg (by decide), decDigits_small _ (by decide)]; rfl)
  rw [← hfin]
  clear hfin
  go_enter Tryd.func7, Tryd.ntmps7
  go_wp2
  go_ret
  exact ⟨rfl, Below.refl _ _⟩
end Go.Proofs.YtcehnibfmhbeiabDoor
