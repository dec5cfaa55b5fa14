import Derived.Test.YtcajejfddfiidaaDoorHas
import Derived.Test.YtcajejfddfiidaaDoorShelf
namespace Go.Proofs.YtcajejfddfiidaaDoor
open Go.RowKit
set_option linter.unusedVariables false
set_option linter.unusedSimpArgs false

/-- A letter of the heads. -/
def isL (c : UInt8) : Bool := decide (c.toNat = 114 ∨ c.toNat = 108 ∨ c.toNat = 103 ∨ c.toNat = 97)
theorem all_L (d : ByteArray) : d.data.toList.all isL = true ↔ ∀ i (h : i < d.size), isL d[i] = true := by
  rw [List.all_eq_true]
  constructor
  · intro h i hi
    exact h _ (List.mem_iff_getElem.2 ⟨i, by simpa using hi, by simp [ByteArray.getElem_eq_getElem_data]⟩)
  · intro h x hx
    obtain ⟨i, hi, rfl⟩ := List.mem_iff_getElem.1 hx
    exact h i (by simpa using hi)
theorem idx_tab : (List.range 256).all (fun n => decide ((Lib.indexByte [114, 108, 103, 97] (UInt8.ofNat n) < 0) ↔ isL (UInt8.ofNat n) = false)) = true := by kernel_rfl
theorem idx_L (c : UInt8) : (Lib.indexByte [114, 108, 103, 97] c < 0) ↔ isL c = false := by
  have := of_decide_eq_true (List.all_eq_true.1 idx_tab c.toNat (List.mem_range.2 c.toNat_lt))
  simpa using this
def hdB (h : ByteArray) : Bool := decide (h.size ≤ 64) && h.data.toList.all isL
def stB (s : Int) : Bool := decide (-1 ≤ s) && decide (s ≤ 255)
theorem hdB_iff (h : ByteArray) : hdB h = true ↔ h.size ≤ 64 ∧ ∀ i (x : i < h.size), isL h[i] = true := by
  unfold hdB; rw [Bool.and_eq_true, decide_eq_true_eq, all_L]
set_option maxRecDepth 100000 in
set_option maxHeartbeats 2000000 in
theorem isStage_any (s : Int) (w : World) : Calls Tryd.prog 24 #[.int .i64 s] w fun e w' => e = .returned (.bool (stB s)) ∧ w' = w := by
  unfold stB
  by_cases h1 : -1 ≤ s
  case pos =>
    by_cases h2 : s ≤ 255
    case pos =>
      have h3 : s < 256 := by omega
      rw [decide_eq_true h1, decide_eq_true h2]
      go_enter Tryd.func24, Tryd.ntmps24
      go_wp2_with fail
      go_ret
      exact ⟨rfl, rfl⟩
    case neg =>
      have h3 : ¬ s < 256 := by omega
      rw [decide_eq_true h1, decide_eq_false h2]
      go_enter Tryd.func24, Tryd.ntmps24
      go_wp2_with fail
      go_ret
      exact ⟨by first | rfl | (rw [decide_eq_false h3]; rfl), rfl⟩
  case neg =>
    rw [decide_eq_false h1]
    go_enter Tryd.func24, Tryd.ntmps24
    go_wp2_with fail
    go_ret
    exact ⟨rfl, rfl⟩
set_option maxRecDepth 100000 in
set_option maxHeartbeats 2000000 in
theorem isHeads_any (d : ByteArray) (w : World) (hs : d.size ≤ 9223372036854775807) : Calls Tryd.prog 23 #[.string d] w fun e w' => e = .returned (.bool (hdB d)) ∧ w' = w := by
  have hA := hdB_iff d
  have k30 := fun (k : Nat) (hk : k < d.size) (X : World) => Tryd.strings_IndexByte ⟨#[114, 108, 103, 97]⟩ (d[k].toNat : Int) X
  have hi : ∀ (k : Nat) (hk : k < d.size), (Lib.indexByte (⟨#[114, 108, 103, 97]⟩ : ByteArray).data.toList (d[k].toNat : Int).toNat.toUInt8) = Lib.indexByte [114, 108, 103, 97] d[k] := fun k hk => by
    rw [Int.toNat_natCast]; simp
  have hA' : Hid (hdB d = true ↔ d.size ≤ 64 ∧ ∀ i (x : i < d.size), isL d[i] = true) := hA
  generalize hdB d = A at *
  clear hA
  go_enter Tryd.func23, Tryd.ntmps23
  go_wp2_with fail
  go_loopw [6] (fun i wr => ∃ k : Nat, k ≤ d.size ∧ k ≤ 64 ∧ i = .int .i64 (k : Int) ∧ Hid (∀ j (h : j < d.size), j < k → isL d[j] = true) ∧ wr = w) (fun i _ => d.size - (intOf i).toNat)
  case atStart => exact ⟨0, by omega, by omega, rfl, (fun j _ h => absurd h (Nat.not_lt_zero _) : ∀ j (h : j < d.size), j < 0 → isL d[j] = true), rfl⟩
  case round =>
    obtain ⟨k, hk, hk6, rfl, hpre, rfl⟩ := hrel
    by_cases hlt : k < d.size
    case neg =>
      have t1 : ¬ (k : Int) < (d.size : Int) := by omega
      have hf : Hid (A = true) := hA'.out.2 ⟨by omega, fun i h => hpre.out i h (by omega)⟩
      clear k30 hi hpre hA'
      go_wp2_with fail
      go_ret
      exact ⟨by rw [hf.out]; rfl, rfl⟩
    have t1 : (k : Int) < (d.size : Int) := by omega
    by_cases h6 : k = 64
    case pos =>
      have hf : Hid (A = false) := by
        show _ = _
        rw [← Bool.not_eq_true, hA'.out]
        omega
      have t2 : (k : Int) = 64 := by omega
      subst h6
      clear k30 hi hpre hA'
      go_wp2_with fail
      go_ret
      exact ⟨by rw [hf.out]; rfl, rfl⟩
    have t2 : ((k : Int) == 64) = false := by simp; omega
    have t3 : ¬ (k : Int) = 64 := by omega
    have k30' := k30 k hlt
    rw [hi k hlt] at k30'
    have hL := idx_L d[k]
    clear k30 hi
    cases hl : isL d[k] with
    | false =>
      rw [hl] at hL
      have t4 : Lib.indexByte [114, 108, 103, 97] d[k] < 0 := hL.2 rfl
      have hf : Hid (A = false) := by
        show _ = _
        rw [← Bool.not_eq_true, hA'.out]
        intro hh
        have := hh.2 k hlt
        rw [hl] at this; cases this
      clear hL hpre hA'
      generalize Lib.indexByte [114, 108, 103, 97] d[k] = IX at *
      go_wp2_with fail
      go_at_call 38
      refine Calls.mono (k30' _) ?_
      rintro e wx ⟨rfl, hwx⟩
      have hwy := hwx.symm
      clear hwx
      subst hwy
      go_wp2_with fail
      go_ret
      exact ⟨by rw [hf.out]; rfl, rfl⟩
    | true =>
      rw [hl] at hL
      have t4 : ¬ Lib.indexByte [114, 108, 103, 97] d[k] < 0 := fun h => by have := hL.1 h; cases this
      have hp2 : Hid (∀ j (h : j < d.size), j < k + 1 → isL d[j] = true) := fun j h hj => by
        by_cases e : j = k
        · subst e; exact hl
        · exact hpre.out j h (by omega)
      clear hL hpre hl
      generalize Lib.indexByte [114, 108, 103, 97] d[k] = IX at *
      go_wp2_with fail
      go_at_call 38
      refine Calls.mono (k30' _) ?_
      rintro e wx ⟨rfl, hwx⟩
      have hwy := hwx.symm
      clear hwx
      subst hwy
      go_wp2_with fail
      go_roundw
      case rel => exact ⟨k + 1, by omega, by omega, by go_num, hp2, trivial⟩
      case measure => simp [intOf]; omega
set_option maxRecDepth 100000 in
set_option maxHeartbeats 2000000 in
theorem told_any (h : ByteArray) (s : Int) (w : World) (hs : h.size ≤ 9223372036854775807) : Calls Tryd.prog 45 #[.agg #[.string h, .int .i64 s]] w fun e w' => e = .returned (.bool (hdB h && stB s)) ∧ Below w.heap.size w w' := by
  have hb0 : Below w.heap.size w (w.alloc (.cells #[.string h, .int .i64 s] 34)) := (Below.refl _ _).alloc (Nat.le_refl _) _
  have K0 : Has (w.alloc (.cells #[.string h, .int .i64 s] 34)) w.heap.size #[.string h, .int .i64 s] := Has.new _ _ _ rfl
  obtain ⟨_, v1, v2⟩ := id K0
  have hA := hdB_iff h
  have hS : stB s = true ↔ -1 ≤ s ∧ s ≤ 255 := by unfold stB; rw [Bool.and_eq_true, decide_eq_true_eq, decide_eq_true_eq]
  have hA' : Hid ((hdB h && stB s) = true ↔ (h.size ≤ 64 ∧ ∀ i (x : i < h.size), isL h[i] = true) ∧ (-1 ≤ s ∧ s ≤ 255)) := by show _ ↔ _; rw [Bool.and_eq_true, hA, hS]
  generalize (hdB h && stB s) = A at *
  clear hA hS
  by_cases g1 : h.size ≤ 64
  case neg =>
    have t1 : (64 : Int) < (h.size : Int) := by omega
    have hf : A = false := by rw [← Bool.not_eq_true, hA'.out]; omega
    subst hf
    go_enter Tryd.func45, Tryd.ntmps45
    go_wp2_with fail
    go_ret
    exact ⟨rfl, hb0⟩
  have t1 : ¬ (64 : Int) < (h.size : Int) := by omega
  by_cases g2 : -1 ≤ s
  case neg =>
    have t2 : s < -1 := by omega
    have hf : A = false := by rw [← Bool.not_eq_true, hA'.out]; omega
    subst hf
    go_enter Tryd.func45, Tryd.ntmps45
    go_wp2_with fail
    go_ret
    exact ⟨rfl, hb0⟩
  have t2 : ¬ s < -1 := by omega
  by_cases g3 : s ≤ 255
  case neg =>
    have t3 : 255 < s := by omega
    have hf : A = false := by rw [← Bool.not_eq_true, hA'.out]; omega
    subst hf
    go_enter Tryd.func45, Tryd.ntmps45
    go_wp2_with fail
    go_ret
    exact ⟨rfl, hb0⟩
  have t3 : ¬ 255 < s := by omega
  have hA2 : Hid (A = true ↔ ∀ i (x : i < h.size), isL h[i] = true) := by
    show _ ↔ _
    rw [hA'.out]
    exact ⟨fun x => x.1.2, fun x => ⟨⟨g1, x⟩, g2, g3⟩⟩
  clear hA'
  go_enter Tryd.func45, Tryd.ntmps45
  go_wp2_with fail
  go_loopw [3] (fun i wr => ∃ k : Nat, k ≤ h.size ∧ i = .int .i64 (k : Int) ∧ Hid (∀ j (x : j < h.size), j < k → isL h[j] = true) ∧ wr = (w.alloc (.cells #[.string h, .int .i64 s] 34))) (fun i _ => h.size - (intOf i).toNat)
  case atStart => exact ⟨0, by omega, rfl, (fun j _ h => absurd h (Nat.not_lt_zero _) : ∀ j (x : j < h.size), j < 0 → isL h[j] = true), rfl⟩
  case round =>
    obtain ⟨k, hk, rfl, hpre, rfl⟩ := hrel
    by_cases hlt : k < h.size
    case neg =>
      have t5 : ¬ (k : Int) < (h.size : Int) := by omega
      have hf : Hid (A = true) := hA2.out.2 (fun i x => hpre.out i x (by omega))
      clear hpre hA2
      go_wp2_with fail
      go_ret
      exact ⟨by rw [hf.out]; rfl, hb0⟩
    have t5 : (k : Int) < (h.size : Int) := by omega
    cases hl : isL h[k] with
    | false =>
      have hf : Hid (A = false) := by
        show _ = _
        rw [← Bool.not_eq_true, hA2.out]
        intro hh
        have := hh k hlt
        rw [hl] at this; cases this
      unfold isL at hl
      have hl := of_decide_eq_false hl
      have c1 : ((h[k].toNat : Int) == 114) = false := by simp; omega
      have c2 : ((h[k].toNat : Int) == 108) = false := by simp; omega
      have c3 : ((h[k].toNat : Int) == 103) = false := by simp; omega
      have c4 : ((h[k].toNat : Int) == 97) = false := by simp; omega
      have e1 : ¬ (h[k].toNat : Int) = 114 := by omega
      have e2 : ¬ (h[k].toNat : Int) = 108 := by omega
      have e3 : ¬ (h[k].toNat : Int) = 103 := by omega
      have e4 : ¬ (h[k].toNat : Int) = 97 := by omega
      have b1 : ((h[k].toNat : Int) != 114) = true := by simp; omega
      have b2 : ((h[k].toNat : Int) != 108) = true := by simp; omega
      have b3 : ((h[k].toNat : Int) != 103) = true := by simp; omega
      have b4 : ((h[k].toNat : Int) != 97) = true := by simp; omega
      clear hpre hA2 hl
      go_wp2_with fail
      go_ret
      exact ⟨by rw [hf.out]; rfl, hb0⟩
    | true =>
      have hp2 : Hid (∀ j (x : j < h.size), j < k + 1 → isL h[j] = true) := fun j x hj => by
        by_cases e : j = k
        · subst e; exact hl
        · exact hpre.out j x (by omega)
      unfold isL at hl
      have hl := of_decide_eq_true hl
      clear hpre hA2
      rcases hl with hl | hl | hl | hl
      · have e0 : (h[k].toNat : Int) = 114 := by omega
        go_wp2_with fail
        go_roundw
        case rel => exact ⟨k + 1, by omega, by go_num, hp2, trivial⟩
        case measure => simp [intOf]; omega
      · have e0 : (h[k].toNat : Int) = 108 := by omega
        have n0 : ((h[k].toNat : Int) == 114) = false := by simp; omega
        have m0 : ¬ (h[k].toNat : Int) = 114 := by omega
        go_wp2_with fail
        go_roundw
        case rel => exact ⟨k + 1, by omega, by go_num, hp2, trivial⟩
        case measure => simp [intOf]; omega
      · have e0 : (h[k].toNat : Int) = 103 := by omega
        have n0 : ((h[k].toNat : Int) == 114) = false := by simp; omega
        have m0 : ¬ (h[k].toNat : Int) = 114 := by omega
        have n1 : ((h[k].toNat : Int) == 108) = false := by simp; omega
        have m1 : ¬ (h[k].toNat : Int) = 108 := by omega
        go_wp2_with fail
        go_roundw
        case rel => exact ⟨k + 1, by omega, by go_num, hp2, trivial⟩
        case measure => simp [intOf]; omega
      · have e0 : (h[k].toNat : Int) = 97 := by omega
        have n0 : ((h[k].toNat : Int) == 114) = false := by simp; omega
        have m0 : ¬ (h[k].toNat : Int) = 114 := by omega
        have n1 : ((h[k].toNat : Int) == 108) = false := by simp; omega
        have m1 : ¬ (h[k].toNat : Int) = 108 := by omega
        have n2 : ((h[k].toNat : Int) == 103) = false := by simp; omega
        have m2 : ¬ (h[k].toNat : Int) = 103 := by omega
        go_wp2_with fail
        go_roundw
        case rel => exact ⟨k + 1, by omega, by go_num, hp2, trivial⟩
        case measure => simp [intOf]; omega
end Go.Proofs.YtcajejfddfiidaaDoor
