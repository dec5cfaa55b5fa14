import Derived.Test.YtcajejfddfiidaaDoorDrM
namespace Go.Proofs.YtcajejfddfiidaaDoor
open Go.RowKit
set_option linter.unusedVariables false
set_option linter.unusedSimpArgs false

theorem idx_no (c : UInt8) : ∀ (l : List UInt8), c ∉ l → Lib.indexByte l c = -1
  | [], _ => rfl
  | x :: r, h => by
    have hb : (x == c) = false := beq_eq_false_iff_ne.2 (fun e => h (by simp [e]))
    unfold Lib.indexByte
    rw [hb, idx_no c r (fun e => h (by simp [e]))]; rfl
theorem idx_hit (c : UInt8) (q : List UInt8) : ∀ (p : List UInt8), c ∉ p → Lib.indexByte (p ++ c :: q) c = (p.length : Nat)
  | [], _ => by simp [Lib.indexByte]
  | x :: p, h => by
    have hb : (x == c) = false := beq_eq_false_iff_ne.2 (fun e => h (by simp [e]))
    show Lib.indexByte (x :: (p ++ c :: q)) c = _
    unfold Lib.indexByte
    rw [hb, idx_hit c q p (fun e => h (by simp [e]))]
    have : (((p.length : Nat) : Int) == -1) = false := by rw [beq_eq_false_iff_ne]; omega
    simp [this]
theorem sl_pre (s : ByteArray) (c : UInt8) (p q : List UInt8) (h : s.data.toList = p ++ c :: q) (w : World) : Sem.run Tryd.prog (Instr.slice 9 (.string s) none (some (.int .i64 (p.length : Int))) none) w = .ok (.string ⟨p.toArray⟩) w := by
  have hl : s.size = p.length + (q.length + 1) := by
    have : s.size = s.data.toList.length := rfl
    rw [this, h]; simp
  have h2 : (p.length : Int) ≤ (s.size : Int) := by omega
  have ex := ext_split s [] p (c :: q) h
  simp only [List.length_nil, Nat.zero_add] at ex
  simp [go_sem, h2, ex]
theorem sl_suf (s : ByteArray) (c : UInt8) (p q : List UInt8) (h : s.data.toList = p ++ c :: q) (w : World) : Sem.run Tryd.prog (Instr.slice 9 (.string s) (some (.int .i64 ((p.length : Int) + 1))) none none) w = .ok (.string ⟨q.toArray⟩) w := by
  have hl : s.size = p.length + 1 + q.length := by
    have : s.size = s.data.toList.length := rfl
    rw [this, h]; simp; omega
  have h1 : (0 : Int) ≤ (p.length : Int) + 1 := by omega
  have h2 : (p.length : Int) + 1 ≤ (s.size : Int) := by omega
  have ex := ext_split s (p ++ [c]) q [] (by rw [h]; simp)
  rw [List.length_append, List.length_singleton, ← hl] at ex
  simp [go_sem, h1, h2]
  exact ex
/-- What Cut at a byte answers. -/
def CuP (s : ByteArray) (c : UInt8) (e : Ending) : Prop := e = .returned (.tuple #[.string ⟨(cutB c s.data.toList).1.toArray⟩, .string ⟨(cutB c s.data.toList).2.1.toArray⟩, .bool (cutB c s.data.toList).2.2])
set_option maxRecDepth 100000 in
set_option maxHeartbeats 2000000 in
theorem cut48_any (s : ByteArray) (c : UInt8) (w : World) (hs : s.size ≤ 9223372036854775806) : Calls Tryd.prog 48 #[.string s, .string ⟨#[c]⟩] w fun e w' => CuP s c e ∧ ∃ n, w' = w.drewN n := by
  have hc8 : (c.toNat : Int).toNat.toUInt8 = c := by simp
  have hI := fun X => index1_any s c X (by omega) (fun X => by have := Tryd.stringslite_IndexByte s (c.toNat : Int) X; rw [hc8] at this; exact this)
  rcases split_at c s.data.toList with hn | ⟨p, q, hl, hp⟩
  · rw [idx_no c _ hn] at hI
    have hp : ∀ e, e = .returned (.tuple #[.string s, .string ⟨#[]⟩, .bool false]) → CuP s c e := by
      intro e he; unfold CuP; rw [cutB_no c _ hn, list_of]; exact he
    go_enter Tryd.func48, Tryd.ntmps48
    go_wp2_with fail
    go_at_call 59
    refine Calls.mono (hI _) ?_
    rintro e w1 ⟨rfl, hw1⟩
    have hw2 := hw1.symm
    clear hw1
    subst hw2
    go_wp2_with fail
    go_ret3
    exact ⟨hp _ rfl, 0, rfl⟩
  · have hI' := fun X => (by have := hI X; rw [hl, idx_hit c q p hp] at this; exact this : Calls Tryd.prog 59 #[.string s, .string ⟨#[c]⟩] X fun e w' => e = .returned (.int .i64 ((p.length : Nat) : Int)) ∧ w' = X)
    clear hI
    have hlen : s.size = p.length + 1 + q.length := by
      have : s.size = s.data.toList.length := rfl
      rw [this, hl]; simp; omega
    have hwr : IntKind.i64.wrap ((p.length : Int) + 1) = (p.length : Int) + 1 := wrap64 _ (by omega)
    have x1 := ext_split s [] p (c :: q) hl
    have x2 := ext_split s (p ++ [c]) q [] (by rw [hl]; simp)
    simp only [List.length_nil, Nat.zero_add] at x1
    rw [List.length_append, List.length_singleton, ← hlen] at x2
    have hq : ∀ e, e = .returned (.tuple #[.string (s.extract 0 p.length), .string (s.extract (p.length + 1) s.size), .bool true]) → CuP s c e := by
      intro e he; unfold CuP; rw [hl, cutB_hit c q p hp]; rw [x1, x2] at he; exact he
    have c1 : (0 : Int) ≤ (p.length : Int) := by omega
    have c2 : (p.length : Int) ≤ (s.size : Int) := by omega
    have c3 : (0 : Int) ≤ (p.length : Int) + 1 := by omega
    have c4 : (p.length : Int) + 1 ≤ (s.size : Int) := by omega
    have hz : ((⟨#[c]⟩ : ByteArray).size) = 1 := rfl
    have mixed : Tryd.prog.follows Departure.mixedOrders = true := by kernel_rfl
    clear x1 x2 hlen
    clear hl hp
    go_enter Tryd.func48, Tryd.ntmps48
    go_wp2_with fail
    go_at_call 59
    refine Calls.mono (hI' _) ?_
    rintro e w1 ⟨rfl, hw1⟩
    have hw2 := hw1.symm
    clear hw1
    subst hw2
    go_wp2_with fail
    go_region_o
    go_wp2
    go_ret3
    exact ⟨hq _ rfl, 1, rfl⟩
end Go.Proofs.YtcajejfddfiidaaDoor
