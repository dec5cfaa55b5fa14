import Derived.Test.YtcehnibfmhbeiabDoorWalksB
import Derived.Lib.SmallJoins
namespace Go.Proofs.YtcehnibfmhbeiabDoor
open Go.RowKit
set_option linter.unusedVariables false

def numV (l : List UInt8) : Int := if numB l = true ∧ l.length ≤ 11 ∧ -2147483648 ≤ sval l ∧ sval l ≤ 2147483647 then sval l else 0
def numE (l : List UInt8) : Int := if numB l = true then (if l.length ≤ 11 ∧ -2147483648 ≤ sval l ∧ sval l ≤ 2147483647 then 0 else 23) else 11

set_option maxRecDepth 100000 in
set_option maxHeartbeats 1000000 in
theorem number_any (s : ByteArray) (tp : TypeId) (p : Value) (w : World) (hs : s.size ≤ maxLen) (hvar : w.var? Tryd.prog "strconv.ErrRange" = some #[.iface tp p]) :
    Calls Tryd.prog 4 #[.string s] w fun e w' => e = .returned (.tuple #[.int .i32 (numV s.data.toList), .int .i64 (numE s.data.toList)]) ∧ Below w.heap.size w w' := by
  have hnum := fun w => isNumeral_any s w hs
  have hlen : s.data.toList.length = s.size := (Lib.size_eq s).symm
  unfold maxLen at hs
  cases hN : numB s.data.toList
  · rw [hN] at hnum
    rw [show numV s.data.toList = 0 by unfold numV; rw [if_neg (by rw [hN]; simp)], show numE s.data.toList = 11 by unfold numE; rw [if_neg (by rw [hN]; simp)]]
    clear hvar hN hlen
    go_enter Tryd.func4, Tryd.ntmps4
    go_wp2_with (go_at_call 8; refine (hnum _).mono ?_; rintro e w' ⟨rfl, rfl⟩)
    go_ret2
    exact ⟨rfl, Below.refl _ _⟩
  · rw [hN] at hnum
    by_cases h11 : s.size ≤ 11
    · have hp := parse_numB hN
      by_cases hr : -2147483648 ≤ sval s.data.toList ∧ sval s.data.toList ≤ 2147483647
      · rw [if_pos hr] at hp
        rw [show numV s.data.toList = sval s.data.toList by unfold numV; rw [if_pos ⟨hN, by omega, hr⟩], show numE s.data.toList = 0 by unfold numE; rw [if_pos hN, if_pos ⟨by omega, hr⟩]]
        have hpc := fun w => Tryd.strconv_ParseInt_10_at32_ok s (by omega) _ hp w
        obtain ⟨hr1, hr2⟩ := hr
        generalize sval s.data.toList = v at hpc hr1 hr2
        clear hvar hN hlen hp
        go_enter Tryd.func4, Tryd.ntmps4
        go_wp2_with (first | (go_at_call 8; refine (hnum _).mono ?_; rintro e w' ⟨rfl, rfl⟩) | (go_at_call 9; refine (hpc _).mono ?_; rintro e w1 ⟨rfl, hw1⟩))
        go_ret2
        refine ⟨rfl, ?_⟩
        rcases hw1 with rfl | ⟨t, rfl⟩
        · exact Below.refl _ _
        · exact Joins.below_bytesWorld _ _ _ _ (Nat.le_refl _)
      · rw [if_neg hr] at hp
        rw [show numV s.data.toList = 0 by unfold numV; rw [if_neg (fun h => hr h.2.2)], show numE s.data.toList = 23 by unfold numE; rw [if_pos hN, if_neg (fun h => hr h.2)]]
        have hpc := Tryd.strconv_ParseInt_10_at32_range_var s (by omega) hp tp p w hvar
        clear hvar hN hlen hp hr
        go_enter Tryd.func4, Tryd.ntmps4
        go_wp2_with (first | (go_at_call 8; refine (hnum _).mono ?_; rintro e w' ⟨rfl, hwe⟩; subst hwe) | (go_at_call 9; refine hpc.mono ?_; rintro e w1 ⟨N, rfl, _, _, hb1⟩))
        go_ret2
        exact ⟨rfl, hb1⟩
    · rw [show numV s.data.toList = 0 by unfold numV; rw [if_neg (fun h => by omega)], show numE s.data.toList = 23 by unfold numE; rw [if_pos hN, if_neg (fun h => by omega)]]
      have h11' : (11 : Int) < (s.size : Int) := by omega
      clear hvar hN hlen
      go_enter Tryd.func4, Tryd.ntmps4
      go_wp2_with (go_at_call 8; refine (hnum _).mono ?_; rintro e w' ⟨rfl, rfl⟩)
      go_ret2
      exact ⟨rfl, Below.refl _ _⟩

/-- What the loop gathers. -/
def gstep (n : Nat) (c : UInt8) : Nat := if c = 45 then n else n * 10 + (c.toNat - 48)
def gval (l : List UInt8) : Nat := l.foldl gstep 0
theorem gval_snoc (l : List UInt8) (c : UInt8) : gval (l ++ [c]) = gstep (gval l) c := by simp [gval, List.foldl_append]
theorem foldl_dig (r : List UInt8) (h : r.all isDig = true) : ∀ acc, r.foldl gstep acc = dval acc r := by
  induction r with
  | nil => intro acc; rw [dval_nil]; rfl
  | cons c r ih =>
    intro acc
    simp only [List.all_cons, Bool.and_eq_true] at h
    have hc := (isDig_eq c).1 h.1
    have h45 : c ≠ 45 := fun e => by rw [e] at hc; exact absurd hc.1 (by decide)
    rw [dval_cons, List.foldl_cons, ih h.2]
    unfold gstep; rw [if_neg h45]
theorem gval_num {l : List UInt8} (h : numB l = true) : gval l = dval 0 (body l) := by
  obtain ⟨c0, r0, hb, hall⟩ := numB_body h
  cases l with
  | nil => cases hb
  | cons c r =>
    by_cases h45 : c = 45
    · have e : body (c :: r) = r := by simp [body, h45]
      rw [e] at hall ⊢
      unfold gval
      rw [List.foldl_cons, show gstep 0 c = 0 by unfold gstep; rw [if_pos h45]]
      exact foldl_dig r hall 0
    · have e : body (c :: r) = c :: r := by simp [body, h45]
      rw [e] at hall ⊢
      exact foldl_dig _ hall 0
theorem num_byte {l : List UInt8} (h : numB l = true) (c : UInt8) (hc : c ∈ l) : c = 45 ∨ (48 ≤ c.toNat ∧ c.toNat ≤ 57) := by
  obtain ⟨c0, r0, hb, hall⟩ := numB_body h
  rw [List.all_eq_true] at hall
  cases l with
  | nil => cases hc
  | cons d r =>
    by_cases h45 : d = 45
    · have e : body (d :: r) = r := by simp [body, h45]
      rw [e] at hall
      rcases List.mem_cons.1 hc with rfl | hm
      · exact .inl h45
      · exact .inr ((isDig_eq c).1 (hall c hm))
    · have e : body (d :: r) = d :: r := by simp [body, h45]
      rw [e] at hall
      exact .inr ((isDig_eq c).1 (hall c hc))
end Go.Proofs.YtcehnibfmhbeiabDoor
