import Derived.Test.YtcajejfddfiidaaDoorDrQ
import Derived.Test.YtcajejfddfiidaaDoorDrP
namespace Go.Proofs.YtcajejfddfiidaaDoor
open Go.RowKit
set_option linter.unusedVariables false
set_option linter.unusedSimpArgs false

theorem dig_val (c : UInt8) (h : Nm.isDig c = true) : UInt8.ofNat (48 + (c.toNat - 48)) = c := by
  have := (Nm.isDig_eq c).1 h
  rw [show 48 + (c.toNat - 48) = c.toNat by omega]
  simp
/-- Digits without a zero ahead are the decimal text of their number. -/
theorem dec_of : ∀ (m : Nat) (l : List UInt8), l.length = m → l ≠ [] → l.all Nm.isDig = true → l.head? ≠ some 48 → Lib.decDigits (Nm.dval 0 l) = l ∧ 1 ≤ Nm.dval 0 l := by
  intro m
  induction m with
  | zero => intro l hl hne; exact absurd (List.length_eq_zero_iff.1 hl) hne
  | succ m ih =>
    intro l hl hne hd hh
    obtain ⟨p, c, rfl⟩ : ∃ p c, l = p ++ [c] := ⟨l.dropLast, l.getLast hne, (List.dropLast_concat_getLast hne).symm⟩
    rw [List.all_append, Bool.and_eq_true] at hd
    have hc : Nm.isDig c = true := by simpa using hd.2
    have hcr := (Nm.isDig_eq c).1 hc
    rw [Nm.dval_snoc]
    by_cases hp : p = []
    · subst hp
      rw [Nm.dval_nil]
      have h0 : c ≠ 48 := fun e => hh (by simp [e])
      have h1 : c.toNat ≠ 48 := fun e => h0 (by apply UInt8.toNat_inj.1; simpa using e)
      rw [Nat.zero_mul, Nat.zero_add, decDigits_small _ (by omega), dig_val c hc]
      exact ⟨rfl, by omega⟩
    · have hph : p.head? ≠ some 48 := fun e => hh (by rw [List.head?_append]; simp [e])
      obtain ⟨i1, i2⟩ := ih p (by simpa using hl) hp hd.1 hph
      refine ⟨?_, by omega⟩
      rw [decDigits_step _ (by omega), show (Nm.dval 0 p * 10 + (c.toNat - 48)) / 10 = Nm.dval 0 p by omega, show (Nm.dval 0 p * 10 + (c.toNat - 48)) % 10 = c.toNat - 48 by omega, i1, dig_val c hc]
theorem dval_dec : ∀ (k u : Nat), u ≤ k → Nm.dval 0 (Lib.decDigits u) = u ∧ (Lib.decDigits u).all Nm.isDig = true ∧ Lib.decDigits u ≠ [] ∧ (u ≠ 0 → (Lib.decDigits u).head? ≠ some 48) := by
  intro k
  induction k with
  | zero =>
    intro u hu
    obtain rfl : u = 0 := by omega
    rw [decDigits_small 0 (by omega)]
    exact ⟨by decide, by decide, by simp, fun h => absurd rfl h⟩
  | succ k ih =>
    intro u hu
    by_cases h : u < 10
    · rw [decDigits_small u h]
      have e1 : (UInt8.ofNat (48 + u)).toNat = 48 + u := by rw [UInt8.toNat_ofNat']; omega
      refine ⟨?_, ?_, by simp, fun h0 e => ?_⟩
      · rw [Nm.dval_cons, Nm.dval_nil, e1]; omega
      · simp only [List.all_cons, List.all_nil, Bool.and_true]
        rw [Nm.isDig_eq, e1]; omega
      · rw [List.head?_cons] at e
        injection e with e
        have := congrArg UInt8.toNat e
        rw [e1] at this
        have h48 : (48 : UInt8).toNat = 48 := rfl
        omega
    · obtain ⟨i1, i2, i3, i4⟩ := ih (u / 10) (by omega)
      rw [decDigits_step u (by omega)]
      have e1 : (UInt8.ofNat (48 + u % 10)).toNat = 48 + u % 10 := by rw [UInt8.toNat_ofNat']; omega
      refine ⟨?_, ?_, by simp, fun _ e => ?_⟩
      · rw [Nm.dval_snoc, i1, e1]; omega
      · rw [List.all_append, i2]
        simp only [List.all_cons, List.all_nil, Bool.and_true, Bool.true_and]
        rw [Nm.isDig_eq, e1]; omega
      · refine i4 (by omega) ?_
        rw [List.head?_append] at e
        cases hh : (Lib.decDigits (u / 10)).head? with
        | none => exact absurd (List.head?_eq_none_iff.1 hh) i3
        | some x => rw [hh] at e; simpa using e
/-- The count that the program reads. -/
def ctF (l : List UInt8) : Option Nat := if Nm.numE l = 0 ∧ 0 ≤ Nm.numV l then some (Nm.numV l).toNat else none
theorem body_no {l : List UInt8} (h : l.head? ≠ some 45) : Nm.body l = l := by
  cases l with
  | nil => rfl
  | cons c r => unfold Nm.body; split <;> simp_all
theorem ctF_Ct : Ct ctF := by
  intro l n
  constructor
  · intro h
    unfold ctF at h
    split at h
    · rename_i hc
      obtain ⟨h1, h2⟩ := hc
      injection h with h
      by_cases hb : Nm.numB l = true
      · unfold Nm.numE at h1
        rw [if_pos hb] at h1
        split at h1
        · rename_i hr
          unfold Nm.numV at h h2
          rw [if_pos ⟨hb, hr⟩] at h h2
          by_cases h48 : l = [48]
          · subst h48
            have : Nm.sval [48] = 0 := by decide
            rw [this] at h
            subst h
            exact ⟨by rw [decDigits_small _ (by decide)]; rfl, by decide⟩
          · rw [Nm.numB_not h48] at hb
            by_cases h45 : l.head? = some 45
            · exfalso
              cases l with
              | nil => simp at h45
              | cons c r =>
                simp at h45
                subst h45
                have eb : Nm.body (45 :: r) = r := rfl
                rw [eb] at hb
                cases r with
                | nil => simp at hb
                | cons d r =>
                  simp only [Bool.and_eq_true, decide_eq_true_eq] at hb
                  have hd := dec_of _ (d :: r) rfl (by simp) (by simp only [List.all_cons, Bool.and_eq_true]; exact ⟨hb.1.2, hb.2⟩) (by simp; exact hb.1.1)
                  have es : Nm.sval (45 :: d :: r) = -(Nm.dval 0 (d :: r) : Int) := by unfold Nm.sval; rw [if_pos (by simp), eb]
                  rw [es] at h2
                  omega
            · have eb := body_no h45
              have es : Nm.sval l = (Nm.dval 0 l : Int) := by unfold Nm.sval; rw [if_neg h45, eb]
              rw [eb] at hb
              rw [es] at h hr
              have en : Nm.dval 0 l = n := by omega
              cases l with
              | nil => simp at hb
              | cons c r =>
                simp only [Bool.and_eq_true, decide_eq_true_eq] at hb
                have hd := dec_of _ (c :: r) rfl (by simp) (by simp only [List.all_cons, Bool.and_eq_true]; exact ⟨hb.1.2, hb.2⟩) (by simp; exact hb.1.1)
                rw [en] at hd
                exact ⟨hd.1.symm, by omega⟩
        · cases h1
      · unfold Nm.numE at h1
        rw [if_neg hb] at h1
        cases h1
    · cases h
  · rintro ⟨rfl, hn⟩
    obtain ⟨d1, d2, d3, d4⟩ := dval_dec n n (Nat.le_refl _)
    have hlen : (Lib.decDigits n).length ≤ 10 := decDigits_len 9 n (by omega)
    have h45 : (Lib.decDigits n).head? ≠ some 45 := by
      intro e
      cases hl : Lib.decDigits n with
      | nil => exact d3 hl
      | cons c r =>
        rw [hl] at e d2
        simp at e
        subst e
        simp only [List.all_cons, Bool.and_eq_true] at d2
        have := d2.1
        revert this
        decide
    have eb := body_no h45
    have es : Nm.sval (Lib.decDigits n) = (n : Int) := by unfold Nm.sval; rw [if_neg h45, eb, d1]
    have hb : Nm.numB (Lib.decDigits n) = true := by
      by_cases h0 : n = 0
      · subst h0; rw [decDigits_small 0 (by decide)]; decide
      · have h48 : Lib.decDigits n ≠ [48] := fun e => d4 h0 (by rw [e]; rfl)
        rw [Nm.numB_not h48, eb]
        have d4 := d4 h0
        revert d2 d3 d4
        cases Lib.decDigits n with
        | nil => intro _ h; exact absurd rfl h
        | cons c r =>
          intro h1 _ h2
          simp only [List.all_cons, Bool.and_eq_true] at h1
          simp at h2
          simp [h1.1, h1.2, h2]
    have hr : (Lib.decDigits n).length ≤ 11 ∧ -2147483648 ≤ Nm.sval (Lib.decDigits n) ∧ Nm.sval (Lib.decDigits n) ≤ 2147483647 := by rw [es]; omega
    have eE : Nm.numE (Lib.decDigits n) = 0 := by unfold Nm.numE; rw [if_pos hb, if_pos hr]
    have eV : Nm.numV (Lib.decDigits n) = (n : Int) := by unfold Nm.numV; rw [if_pos ⟨hb, hr⟩, es]
    unfold ctF
    rw [eE, eV, if_pos ⟨rfl, by omega⟩]
    simp
/-- The error that ParseInt may tell stands. -/
def Rg (w : World) : Prop := ∃ tp p, w.var? Tryd.prog "strconv.ErrRange" = some #[.iface tp p]
set_option maxRecDepth 100000 in
set_option maxHeartbeats 2000000 in
theorem readCount_any (t : ByteArray) (w : World) (hs : t.size ≤ maxLen) (hR : Rg w) : Calls Tryd.prog 55 #[.string t] w fun e w' => CtP ctF t e ∧ Below w.heap.size w w' := by
  obtain ⟨tp, p, hv⟩ := hR
  have h68 := Nm.number_any t tp p w hs hv
  have rV : -2147483648 ≤ Nm.numV t.data.toList ∧ Nm.numV t.data.toList ≤ 2147483647 := by
    unfold Nm.numV
    split
    · rename_i h; exact h.2.2
    · decide
  have hp : ∀ e, (if Nm.numE t.data.toList = 0 ∧ 0 ≤ Nm.numV t.data.toList then e = .returned (.tuple #[.int .i64 (Nm.numV t.data.toList), .bool true]) else ∃ u : Int, e = .returned (.tuple #[.int .i64 u, .bool false])) → CtP ctF t e := by
    intro e he
    unfold CtP ctF
    split at he
    · rename_i h
      rw [if_pos h]
      show e = _
      rw [he, Int.toNat_of_nonneg h.2]
    · rename_i h
      rw [if_neg h]
      exact he
  clear hv
  generalize Nm.numV t.data.toList = V at *
  generalize Nm.numE t.data.toList = E at *
  by_cases hE : E = 0
  · subst hE
    by_cases hV : 0 ≤ V
    · have hq : ∀ e, e = .returned (.tuple #[.int .i64 V, .bool true]) → CtP ctF t e := fun e he => hp e (by rw [if_pos ⟨rfl, hV⟩]; exact he)
      clear hp
      go_enter Tryd.func55, Tryd.ntmps55
      go_wp2_with (go_at_call 68; (with_reducible refine Calls.mono h68 ?_); rintro e w1 ⟨rfl, hb⟩)
      go_ret2
      exact ⟨hq _ (by first | rfl | simp [hV]), hb⟩
    · have hq : ∀ e, (∃ u : Int, e = .returned (.tuple #[.int .i64 u, .bool false])) → CtP ctF t e := fun e he => hp e (by rw [if_neg (fun h => hV h.2)]; exact he)
      clear hp
      go_enter Tryd.func55, Tryd.ntmps55
      go_wp2_with (go_at_call 68; (with_reducible refine Calls.mono h68 ?_); rintro e w1 ⟨rfl, hb⟩)
      go_ret2
      exact ⟨hq _ ⟨V, by first | rfl | (simp; omega)⟩, hb⟩
  · have hq : ∀ e, (∃ u : Int, e = .returned (.tuple #[.int .i64 u, .bool false])) → CtP ctF t e := fun e he => hp e (by rw [if_neg (fun h => hE h.1)]; exact he)
    clear hp
    go_enter Tryd.func55, Tryd.ntmps55
    go_wp2_with (go_at_call 68; (with_reducible refine Calls.mono h68 ?_); rintro e w1 ⟨rfl, hb⟩)
    go_ret2
    exact ⟨hq _ ⟨V, by first | rfl | simp [hE]⟩, hb⟩
end Go.Proofs.YtcajejfddfiidaaDoor
