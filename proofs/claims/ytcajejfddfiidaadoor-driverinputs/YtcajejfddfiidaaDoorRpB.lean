import Derived.Test.YtcajejfddfiidaaDoorShelf
import Derived.Test.YtcajejfddfiidaaDoorHas
import Derived.Lib.ItoaNum
import Derived.Deep.LoopGhost
import Derived.WalkLawsBesides
import Derived.Lib.AppendIntMem
import Derived.Laws.IdiomStrings
import Derived.WideShapes
namespace Go.Proofs.YtcajejfddfiidaaDoor
open Go.RowKit
set_option linter.unusedVariables false
set_option linter.unusedSimpArgs false

theorem decDigits_step (u : Nat) (h : 10 ≤ u) : Lib.decDigits u = Lib.decDigits (u / 10) ++ [UInt8.ofNat (48 + u % 10)] := by
  rw [Lib.decDigits.eq_def u, dif_neg (by omega)]
theorem decDigits_small (u : Nat) (h : u < 10) : Lib.decDigits u = [UInt8.ofNat (48 + u)] := by
  rw [Lib.decDigits.eq_def u, dif_pos h]
set_option maxHeartbeats 400000 in
theorem size_any (x : Int) (w : World) (h1 : -2147483648 ≤ x) (h2 : x ≤ 2147483647) : Calls Tryd.prog 82 #[.int .i64 x] w fun e w' => e = .returned (.int .i64 (x.natAbs : Nat)) ∧ w' = w := by
  have ret_int : ∀ {a b : Int}, a = b → Ending.returned (.int .i64 a) = .returned (.int .i64 b) := fun h => by rw [h]
  by_cases h : x < 0
  all_goals
    go_enter Tryd.func82, Tryd.ntmps82
    go_wp2
    go_ret
    exact ⟨ret_int (by omega), rfl⟩

theorem decDigits_len : ∀ (k u : Nat), u < 10 ^ (k + 1) → (Lib.decDigits u).length ≤ k + 1
  | 0, u, h => by rw [decDigits_small u (by simpa using h)]; simp
  | k + 1, u, h => by
    by_cases hu : u < 10
    · rw [decDigits_small u hu]; simp
    · have hp : 10 ^ (k + 1 + 1) = 10 ^ (k + 1) * 10 := Nat.pow_succ 10 (k + 1)
      have := decDigits_len k (u / 10) (by omega)
      rw [decDigits_step u (by omega)]; simp; omega
theorem app_list (b : UInt8) (x : ByteArray) : ((⟨#[b]⟩ : ByteArray) ++ x).data.toList = b :: x.data.toList := by simp
theorem byte_nat (m : Nat) : (UInt8.ofNat (48 + m % 10)).toNat = 48 + m % 10 := UInt8.toNat_ofNat_of_lt' (by show _ < 256; omega)
theorem conv_one (m : Nat) (w : World) : (convert 55 9 (.slice (some ⟨w.heap.size, 0, none⟩) 1 1)).run Tryd.prog (w.alloc (.cells #[.int .u8 (48 + (m : Int) % 10)] 5)) =
    .ok (.string ⟨#[UInt8.ofNat (48 + m % 10)]⟩) (w.alloc (.cells #[.int .u8 (48 + (m : Int) % 10)] 5)) := by
  refine run_convert_bytes_back (w.alloc (.cells #[.int .u8 (48 + (m : Int) % 10)] 5)) 55 9 5 ⟨w.heap.size, 0, none⟩ 1 [UInt8.ofNat (48 + m % 10)] Tryd.underlying55 Tryd.underlying5 Tryd.underlying9 ?_
  intro j hj
  obtain rfl : j = 0 := by simpa using hj
  rw [show (⟨w.heap.size, 0, none⟩ : Addr).add 0 = ⟨w.heap.size, 0, none⟩ from rfl]
  rw [World.cell?_alloc_new]
  show some _ = some (Value.int .u8 ((UInt8.ofNat (48 + m % 10)).toNat : Int))
  rw [byte_nat]
  congr 2
theorem itoa_of (n : Int) (x : ByteArray) (h : x.data.toList = Lib.itoa n) : x = ⟨(Lib.itoa n).toArray⟩ := by
  apply WideShapes.bytes_inj; rw [h]

set_option maxRecDepth 100000 in
set_option maxHeartbeats 1000000 in
theorem refText_any (n : Int) (w : World) (h1 : -2147483648 ≤ n) (h2 : n ≤ 2147483647) (h0 : n ≠ 0) (hz : (n == 0) = false) :
    Calls Tryd.prog 70 #[.int .i32 n] w fun e w' => e = .returned (.string ⟨(Lib.itoa n).toArray⟩) ∧ Below w.heap.size w w' := by
  have hsz : ∀ w, Calls Tryd.prog 82 #[.int .i64 n] w fun e w' => e = .returned (.int .i64 (n.natAbs : Nat)) ∧ w = w' := fun w => (size_any n w h1 h2).mono fun _ _ h => ⟨h.1, h.2.symm⟩
  have hU : 0 < n.natAbs := by omega
  have hUb : n.natAbs ≤ 2147483648 := by omega
  have hit : Hid (Lib.itoa n = if n < 0 then 45 :: Lib.decDigits n.natAbs else Lib.decDigits n.natAbs) := by
    show _ = _
    unfold Lib.itoa
    by_cases hn : n < 0
    · rw [if_pos hn, if_pos hn]
    · rw [if_neg hn, if_neg hn, show n.toNat = n.natAbs by omega]
  have hlen : Hid ((Lib.decDigits n.natAbs).length ≤ 10) := decDigits_len 9 _ (Nat.lt_of_le_of_lt hUb (by decide))
  generalize hUe : n.natAbs = U at hsz hU hUb hit hlen
  clear hUe
  go_enter Tryd.func70, Tryd.ntmps70
  go_wp2_with (go_at_call 82; refine (hsz _).mono ?_; rintro e w' ⟨rfl, rfl⟩)
  go_loopg [3, 4] U (fun gk lf ss wr => ∃ (m : Nat) (x : ByteArray), m ≤ gk ∧ m ≤ U ∧ lf = .int .i64 m ∧ ss = .string x ∧ Below w.heap.size w wr ∧ ((m = 0 ∧ x.data.toList = Lib.decDigits U) ∨ (0 < m ∧ Lib.decDigits U = Lib.decDigits m ++ x.data.toList)))
  case atStart => exact ⟨U, ⟨#[]⟩, Nat.le_refl _, Nat.le_refl _, rfl, rfl, Below.refl _ _, .inr ⟨hU, by simp⟩⟩
  case round =>
    obtain ⟨m, x, hm, hmU, rfl, rfl, hB, hdig⟩ := hrel
    have hx : x.size ≤ 10 := by
      have h := hlen.out
      rw [Lib.size_eq]
      rcases hdig with ⟨_, e⟩ | ⟨_, e⟩
      · rw [e]; exact h
      · rw [e] at h; simp at h ⊢; omega
    have hdig' : Hid ((m = 0 ∧ x.data.toList = Lib.decDigits U) ∨ (0 < m ∧ Lib.decDigits U = Lib.decDigits m ++ x.data.toList)) := hdig
    clear hdig
    by_cases hp : 0 < m
    · have hcv := conv_one m wr
      generalize hby : (⟨#[UInt8.ofNat (48 + m % 10)]⟩ : ByteArray) = y at hcv
      have hy : y.size ≤ 10 := by rw [← hby]; show (1 : Nat) ≤ 10; decide
      have hby' : Hid (y = ⟨#[UInt8.ofNat (48 + m % 10)]⟩) := hby.symm
      clear hby
      go_wp2
      go_roundg (m / 10)
      case measure => omega
      case rel =>
        have e1 := (hdig'.out.resolve_left (by omega)).2
        have e2 : (y ++ x).data.toList = UInt8.ofNat (48 + m % 10) :: x.data.toList := by rw [hby'.out]; exact app_list _ _
        refine ⟨m / 10, y ++ x, Nat.le_refl _, by omega, by push_cast; rfl, rfl, hB.alloc hB.size _, ?_⟩
        by_cases h10 : 10 ≤ m
        · right
          refine ⟨by omega, ?_⟩
          rw [e1, decDigits_step m h10, e2]; simp
        · left
          refine ⟨by omega, ?_⟩
          rw [e1, decDigits_small m (by omega), e2, show m % 10 = m by omega]; rfl
    · have hxe : Hid (x.data.toList = Lib.decDigits U) := (hdig'.out.resolve_right (by omega)).2
      obtain rfl : m = 0 := by omega
      by_cases hn : n < 0
      · have hfin : Hid (((⟨#[45]⟩ : ByteArray) ++ x) = ⟨(Lib.itoa n).toArray⟩) := itoa_of n _ (by rw [app_list, hxe.out, hit.out, if_pos hn])
        clear hit hxe hdig' hlen
        go_wp2
        go_ret
        exact ⟨ret_str hfin.out, hB⟩
      · have hfin : Hid (x = ⟨(Lib.itoa n).toArray⟩) := itoa_of n _ (by rw [hxe.out, hit.out, if_neg hn])
        clear hit hxe hdig' hlen
        go_wp2
        go_ret
        exact ⟨ret_str hfin.out, hB⟩

set_option maxHeartbeats 400000 in
theorem refText_zero (w : World) : Calls Tryd.prog 70 #[.int .i32 0] w fun e w' => e = .returned (.string ⟨(Lib.itoa 0).toArray⟩) ∧ Below w.heap.size w w' := by
  have hfin : (⟨#[48]⟩ : ByteArray) = ⟨(Lib.itoa 0).toArray⟩ := itoa_of 0 _ (by unfold Lib.itoa; rw [if_neg (by decide), decDigits_small _ (by decide)]; rfl)
  rw [← hfin]
  clear hfin
  go_enter Tryd.func70, Tryd.ntmps70
  go_wp2
  go_ret
  exact ⟨rfl, Below.refl _ _⟩

/-- A number's text. -/
def ti (n : Int) : ByteArray := ⟨(Lib.itoa n).toArray⟩
theorem refText_all (n : Int) (w : World) (h1 : -2147483648 ≤ n) (h2 : n ≤ 2147483647) : Calls Tryd.prog 70 #[.int .i32 n] w fun e w' => e = .returned (.string (ti n)) ∧ Below w.heap.size w w' := by
  by_cases h0 : n = 0
  · subst h0; exact refText_zero w
  · exact refText_any n w h1 h2 h0 (by simpa using h0)
theorem ti_step (n q : Int) (d : Nat) (hq : q.natAbs = n.natAbs / 10) (hs : (n < 0) ↔ (q < 0)) (hd : d = n.natAbs % 10) (hb : 10 ≤ n.natAbs) : ti n = ti q ++ ⟨#[UInt8.ofNat (48 + d)]⟩ := by
  apply WideShapes.bytes_inj
  have e1 : (ti n).data.toList = Lib.itoa n := by simp [ti]
  have e2 : (ti q ++ (⟨#[UInt8.ofNat (48 + d)]⟩ : ByteArray)).data.toList = Lib.itoa q ++ [UInt8.ofNat (48 + d)] := by simp [ti]
  rw [e1, e2]
  unfold Lib.itoa
  by_cases hn : n < 0
  · rw [if_pos hn, if_pos (hs.1 hn), decDigits_step _ hb, hq, hd]; simp
  · rw [if_neg hn, if_neg (fun h => hn (hs.2 h)), show n.toNat = n.natAbs by omega, show q.toNat = q.natAbs by omega, decDigits_step _ hb, hq, hd]
theorem ti_size (n : Int) (h1 : -9223372036854775808 ≤ n) (h2 : n ≤ 9223372036854775807) : (ti n).size ≤ 20 := by
  have := decDigits_len 18 n.natAbs (Nat.lt_of_le_of_lt (show n.natAbs ≤ 9223372036854775808 by omega) (by decide))
  show (Lib.itoa n).toArray.size ≤ 20
  rw [List.size_toArray]
  unfold Lib.itoa
  split
  · simp; omega
  · rw [show n.toNat = n.natAbs by omega]; omega
theorem itoa_any (n : Int) (w : World) (h0 : -9223372036854775808 ≤ n) (h1 : n ≤ 9223372036854775807) (htab : Lib.TabIs Tryd.prog w "internal/strconv.uint64pow10" .u64 Lib.pow10Tab) :
    Calls Tryd.prog 44 #[.int .i64 n] w fun e w' => e = .returned (.string (ti n)) ∧ Below w.heap.size w w' := by
  refine (Tryd.strconv_Itoa n h0 h1 w htab).mono ?_
  rintro e w' ⟨he, k, os, rfl⟩
  exact ⟨he, Lib.below_grow _ _ (Nat.le_refl _) _ _⟩
end Go.Proofs.YtcajejfddfiidaaDoor
