import Derived.Test.YtcajejfddfiidaaDoorDrO
import Derived.Test.YtcajejfddfiidaaDoorSheln
import Derived.Lib.ParseIntB
import Derived.Lib.ItoaNum
import Derived.WalkKit
import Derived.WalkSpells
import Derived.Deep.DeepMust
import Derived.Lib.SmallJoins
namespace Go.Proofs.YtcajejfddfiidaaDoor.Nm
open Go.RowKit
set_option linter.unusedVariables false
section
open Go.Lib

def isDig (c : UInt8) : Bool := decide (48 ≤ c.toNat ∧ c.toNat ≤ 57)
/-- What stands behind the sign. -/
def body : List UInt8 → List UInt8
  | c :: r => if c = 45 then r else c :: r
  | [] => []
/-- The text of a whole number, of whatever size. -/
def numB (l : List UInt8) : Bool := decide (l = [48]) || (match body l with | [] => false | c :: r => decide (c ≠ 48) && isDig c && r.all isDig)
/-- The number that digits spell. -/
def dstep (a : Nat) (c : UInt8) : Nat := a * 10 + (c.toNat - 48)
def dval (acc : Nat) (l : List UInt8) : Nat := l.foldl dstep acc
theorem dval_nil (acc : Nat) : dval acc [] = acc := by unfold dval; exact List.foldl_nil
theorem dval_cons (c : UInt8) (r : List UInt8) (acc : Nat) : dval acc (c :: r) = dval (acc * 10 + (c.toNat - 48)) r := by unfold dval; rw [List.foldl_cons]; unfold dstep; trivial
theorem dval_ge : ∀ (l : List UInt8) (acc : Nat), acc ≤ dval acc l
  | [], acc => by rw [dval_nil]; exact Nat.le_refl _
  | c :: r, acc => by rw [dval_cons]; exact Nat.le_trans (by omega) (dval_ge r (acc * 10 + (c.toNat - 48)))
theorem dval_snoc : ∀ (l : List UInt8) (acc : Nat) (c : UInt8), dval acc (l ++ [c]) = dval acc l * 10 + (c.toNat - 48)
  | [], acc, c => by rw [List.nil_append, dval_cons, dval_nil, dval_nil]
  | d :: r, acc, c => by rw [List.cons_append, dval_cons, dval_cons]; exact dval_snoc r _ c
theorem dval_lt : ∀ (l : List UInt8) (acc : Nat), l.all isDig = true → dval acc l < (acc + 1) * 10 ^ l.length
  | [], acc, _ => by rw [dval_nil]; simp
  | c :: r, acc, h => by
    simp only [List.all_cons, Bool.and_eq_true] at h
    have hc : 48 ≤ c.toNat ∧ c.toNat ≤ 57 := by simpa [isDig] using h.1
    have := dval_lt r (acc * 10 + (c.toNat - 48)) h.2
    rw [dval_cons, List.length_cons]
    refine Nat.lt_of_lt_of_le this ?_
    rw [Nat.pow_succ, ← Nat.mul_assoc, Nat.mul_right_comm]
    exact Nat.mul_le_mul_right _ (by omega)
theorem parseUintM_digits (M : Nat) (hM : M < 1844674407370955162) : ∀ (l : List UInt8) (acc : Nat), acc ≤ M → l.all isDig = true →
    parseUintM M acc l = if dval acc l ≤ M then .ok (dval acc l) else .range
  | [], acc, ha, _ => by rw [dval_nil, if_pos ha]; rfl
  | c :: r, acc, ha, h => by
    simp only [List.all_cons, Bool.and_eq_true] at h
    have hc : 48 ≤ c.toNat ∧ c.toNat ≤ 57 := by simpa [isDig] using h.1
    have hge := dval_ge r (acc * 10 + (c.toNat - 48))
    rw [dval_cons]
    obtain ⟨z, hp⟩ : ∃ z, parseUintM M acc (c :: r) = if 48 ≤ c.toNat ∧ c.toNat ≤ 57 then if 1844674407370955162 ≤ acc then .range else if M < acc * 10 + (c.toNat - 48) then .range else parseUintM M (acc * 10 + (c.toNat - 48)) r else z := ⟨_, rfl⟩
    rw [hp, if_pos hc, if_neg (by omega)]
    by_cases hb : M < acc * 10 + (c.toNat - 48)
    · rw [if_pos hb, if_neg (by omega)]
    · rw [if_neg hb, parseUintM_digits M hM r _ (by omega) h.2]
/-- The number that a text spells, its sign with it. -/
def sval (l : List UInt8) : Int := if l.head? = some 45 then -(dval 0 (body l) : Int) else (dval 0 (body l) : Int)
theorem numB_body {l : List UInt8} (h : numB l = true) : ∃ c r, body l = c :: r ∧ (body l).all isDig = true := by
  unfold numB at h
  rw [Bool.or_eq_true] at h
  rcases h with h | h
  · have : l = [48] := by simpa using h
    subst this
    exact ⟨48, [], by decide, by decide⟩
  · cases hb : body l with
    | nil => rw [hb] at h; cases h
    | cons c r =>
      rw [hb] at h
      simp only [Bool.and_eq_true] at h
      exact ⟨c, r, rfl, by simp only [List.all_cons, Bool.and_eq_true]; exact ⟨h.1.2, h.2⟩⟩
theorem parse_numB {l : List UInt8} (h : numB l = true) : parseIntB 32 l = if -2147483648 ≤ sval l ∧ sval l ≤ 2147483647 then .ok (sval l) else .range := by
  obtain ⟨c0, r0, hb, hall⟩ := numB_body h
  cases l with
  | nil => cases hb
  | cons c r =>
    by_cases hc : c = 45
    · subst hc
      have hbr : body (45 :: r) = r := by simp [body]
      rw [hbr] at hb hall
      have hs : sval (45 :: r) = -(dval 0 r : Int) := by simp [sval, hbr]
      have hp : parseUintB 32 r = if dval 0 r ≤ 4294967295 then .ok (dval 0 r) else .range := by
        unfold parseUintB
        rw [if_neg (by rw [hb]; simp)]
        exact parseUintM_digits _ (by decide) r 0 (by omega) hall
      rw [hs]
      unfold parseIntB
      simp only [show (45 : UInt8).toNat = 45 from rfl, or_true, if_true, hp]
      by_cases hle : dval 0 r ≤ 4294967295
      · rw [if_pos hle]
        simp only [not_true_eq_false, false_and, if_false, true_and]
        by_cases h2 : 2 ^ (32 - 1) < dval 0 r
        · rw [if_pos h2, if_neg (by omega)]
        · rw [if_neg h2, if_pos (by omega)]
      · rw [if_neg hle, if_neg (by omega)]
    · have hbr : body (c :: r) = c :: r := by simp [body, hc]
      rw [hbr] at hb hall
      have hd : 48 ≤ c.toNat ∧ c.toNat ≤ 57 := by
        simp only [List.all_cons, Bool.and_eq_true] at hall
        simpa [isDig] using hall.1
      have hs : sval (c :: r) = (dval 0 (c :: r) : Int) := by simp [sval, hbr, hc]
      have hp : parseUintB 32 (c :: r) = if dval 0 (c :: r) ≤ 4294967295 then .ok (dval 0 (c :: r)) else .range := by
        unfold parseUintB
        rw [if_neg (by simp)]
        exact parseUintM_digits _ (by decide) (c :: r) 0 (by omega) hall
      rw [hs]
      unfold parseIntB
      simp only [show ¬ (c.toNat = 43 ∨ c.toNat = 45) by omega, if_false, hp]
      have hn : ¬ c.toNat = 45 := by omega
      by_cases hle : dval 0 (c :: r) ≤ 4294967295
      · rw [if_pos hle]
        simp only [hn, not_false_eq_true, true_and, false_and, if_false]
        by_cases h2 : 2 ^ (32 - 1) ≤ dval 0 (c :: r)
        · rw [if_pos h2, if_neg (by omega)]
        · rw [if_neg h2, if_pos (by omega)]
      · rw [if_neg hle, if_neg (by omega)]
/-- The digits as the second text gathers them: from the last on. -/
theorem decDigits_step (u : Nat) (h : 10 ≤ u) : decDigits u = decDigits (u / 10) ++ [UInt8.ofNat (48 + u % 10)] := by
  rw [decDigits.eq_def u, dif_neg (by omega)]
theorem decDigits_small (u : Nat) (h : u < 10) : decDigits u = [UInt8.ofNat (48 + u)] := by
  rw [decDigits.eq_def u, dif_pos h]
end

theorem trim_body (l : List UInt8) : Lib.trimPrefix l [45] = body l := by
  cases l with
  | nil => rfl
  | cons c r =>
    unfold Lib.trimPrefix Lib.hasPrefix body
    by_cases h : c = 45
    · subst h; simp
    · have h' : ¬ 45 = c := fun e => h e.symm
      simp [h, h']
theorem body_le (l : List UInt8) : (body l).length ≤ l.length := by
  cases l with
  | nil => simp [body]
  | cons c r => by_cases h : c = 45 <;> simp [body, h]
theorem numB_not {l : List UInt8} (h : l ≠ [48]) : numB l = (match body l with | [] => false | c :: r => decide (c ≠ 48) && isDig c && r.all isDig) := by
  unfold numB; rw [decide_eq_false h, Bool.false_or]
theorem all_dig (d : ByteArray) : d.data.toList.all isDig = true ↔ ∀ i (h : i < d.size), isDig d[i] = true := by
  rw [List.all_eq_true]
  constructor
  · intro h i hi
    exact h _ (List.mem_iff_getElem.2 ⟨i, by simpa using hi, by simp [ByteArray.getElem_eq_getElem_data]⟩)
  · intro h x hx
    obtain ⟨i, hi, rfl⟩ := List.mem_iff_getElem.1 hx
    exact h i (by simpa using hi)
theorem isDig_eq (c : UInt8) : isDig c = true ↔ 48 ≤ c.toNat ∧ c.toNat ≤ 57 := by simp [isDig]

set_option maxRecDepth 100000 in
set_option maxHeartbeats 1000000 in
/-- The loop over the digits. -/
theorem isNumeral_loop (s d : ByteArray) (w : World) (hs : d.size ≤ 9223372036854775807) (h48 : (s.toList == [48]) = false) (hne : d.toList.isEmpty = false) (h0 : 0 < d.size) (hc : ((d[0].toNat : Int) == 48) = false)
    (htp : ∀ w, Calls Tryd.prog 84 #[.string s, .string ⟨#[45]⟩] w fun e w' => e = .returned (.string d) ∧ w' = w) :
    Calls Tryd.prog 76 #[.string s] w fun e w' => e = .returned (.bool (d.data.toList.all isDig)) ∧ w' = w := by
  have hall := all_dig d
  generalize d.data.toList.all isDig = A at hall
  have hall' : Hid (A = true ↔ ∀ i (h : i < d.size), isDig d[i] = true) := hall
  clear hall
  go_enter Tryd.func76, Tryd.ntmps76
  go_wp2_with (go_at_call 84; refine (htp _).mono ?_; rintro e w' ⟨rfl, rfl⟩)
  go_loop [18] (fun i => ∃ k : Nat, k ≤ d.size ∧ i = .int .i64 k ∧ ∀ j (h : j < d.size), j < k → isDig d[j] = true) (fun i => d.size - (intOf i).toNat)
  case atStart => exact ⟨0, Nat.zero_le _, rfl, fun j _ h => absurd h (Nat.not_lt_zero _)⟩
  case round =>
    obtain ⟨k, hk, rfl, hpre⟩ := hrel
    have hpre' : Hid (∀ j (h : j < d.size), j < k → isDig d[j] = true) := hpre
    clear hpre
    by_cases hlt : k < d.size
    · by_cases hlo : (d[k].toNat : Int) < 48
      · go_wp2
        go_ret
        exact ⟨ret_bool (by
          rw [eq_comm, ← Bool.not_eq_true, hall'.out]
          intro h; have := (isDig_eq _).1 (h k hlt); omega), rfl⟩
      · by_cases hhi : 57 < (d[k].toNat : Int)
        · go_wp2
          go_ret
          exact ⟨ret_bool (by
            rw [eq_comm, ← Bool.not_eq_true, hall'.out]
            intro h; have := (isDig_eq _).1 (h k hlt); omega), rfl⟩
        · have hdig : isDig d[k] = true := (isDig_eq _).2 (by omega)
          have hdig' : Hid (isDig d[k] = true) := hdig
          clear hdig
          go_wp2
          go_round
          case rel => exact ⟨k + 1, by omega, by go_num, fun j h hj => by
            by_cases e : j = k
            · subst e; exact hdig'.out
            · exact hpre'.out j h (by omega)⟩
          case measure => simp [intOf]; omega
    · go_wp2
      go_ret
      exact ⟨ret_bool (by rw [eq_comm, hall'.out]; exact fun i h => hpre'.out i h (by omega)), rfl⟩

theorem head_of {d : ByteArray} {c : UInt8} {r : List UInt8} (h : d.data.toList = c :: r) : ∃ h0 : 0 < d.size, d[0] = c := by
  have hl : d.size = r.length + 1 := by
    have := congrArg List.length h
    simpa using this
  refine ⟨by omega, ?_⟩
  have : d.data.toList[0]? = some c := by rw [h]; rfl
  rw [List.getElem?_eq_some_iff] at this
  obtain ⟨hh, e⟩ := this
  simpa [ByteArray.getElem_eq_getElem_data] using e
theorem u8_eq (c : UInt8) (n : Nat) (h : n < 256) : ((c.toNat : Int) == (n : Int)) = decide (c = UInt8.ofNat n) := by
  rw [Bool.eq_iff_iff]
  simp only [beq_iff_eq, decide_eq_true_iff]
  constructor
  · intro e; apply UInt8.toNat_inj.1; rw [UInt8.toNat_ofNat_of_lt' (by simpa using h)]; omega
  · intro e; rw [e, UInt8.toNat_ofNat_of_lt' (by simpa using h)]

set_option maxRecDepth 100000 in
set_option maxHeartbeats 1000000 in
theorem isNumeral_any (s : ByteArray) (w : World) (hs : s.size ≤ maxLen) :
    Calls Tryd.prog 76 #[.string s] w fun e w' => e = .returned (.bool (numB s.data.toList)) ∧ w' = w := by
  unfold maxLen at hs
  by_cases h48 : s.data.toList = [48]
  · have hb : (s.toList == [48]) = true := by rw [ByteArray.toList_eq, h48]; rfl
    rw [h48]
    go_enter Tryd.func76, Tryd.ntmps76
    go_wp2
    go_ret
    exact ⟨rfl, rfl⟩
  · have hb : (s.toList == [48]) = false := by rw [ByteArray.toList_eq]; simpa using h48
    have htp := fun w => Tryd.strings_TrimPrefix s ⟨#[45]⟩ w
    rw [numB_not h48]
    have hdl : (⟨(Lib.trimPrefix s.data.toList (ByteArray.mk #[45]).data.toList).toArray⟩ : ByteArray).data.toList = body s.data.toList := by
      rw [show (ByteArray.mk #[45]).data.toList = [45] from rfl, trim_body]
    have hsz : (⟨(Lib.trimPrefix s.data.toList (ByteArray.mk #[45]).data.toList).toArray⟩ : ByteArray).size ≤ s.size := by
      rw [Lib.size_eq, hdl, Lib.size_eq]; exact body_le _
    generalize (⟨(Lib.trimPrefix s.data.toList (ByteArray.mk #[45]).data.toList).toArray⟩ : ByteArray) = d at htp hdl hsz
    cases hbd : body s.data.toList with
    | nil =>
      rw [hbd] at hdl
      have he : d.toList.isEmpty = true := by rw [ByteArray.toList_eq, hdl]; rfl
      clear hbd hdl hsz
      go_enter Tryd.func76, Tryd.ntmps76
      go_wp2_with (go_at_call 84; refine (htp _).mono ?_; rintro e w' ⟨rfl, rfl⟩)
      go_ret
      exact ⟨rfl, rfl⟩
    | cons c r =>
      rw [hbd] at hdl
      have he : d.toList.isEmpty = false := by rw [ByteArray.toList_eq, hdl]; rfl
      obtain ⟨h0, hc⟩ := head_of hdl
      by_cases h8 : c = 48
      · have hc8 : ((d[0].toNat : Int) == 48) = true := by rw [hc, h8]; rfl
        have hr : (decide (c ≠ 48) && isDig c && r.all isDig) = false := by rw [decide_eq_false (by simpa using h8)]; rfl
        rw [show (match c :: r with | [] => false | c :: r => decide (c ≠ 48) && isDig c && r.all isDig) = (decide (c ≠ 48) && isDig c && r.all isDig) from rfl, hr]
        clear hbd hdl hsz hc hr
        go_enter Tryd.func76, Tryd.ntmps76
        go_wp2_with (go_at_call 84; refine (htp _).mono ?_; rintro e w' ⟨rfl, rfl⟩)
        go_ret
        exact ⟨rfl, rfl⟩
      · have hc8 : ((d[0].toNat : Int) == 48) = false := by
          have := u8_eq d[0] 48 (by decide)
          rw [hc] at this ⊢
          rw [show ((48 : Nat) : Int) = 48 from rfl] at this
          rw [this]; simpa using h8
        have := isNumeral_loop s d w (by omega) hb he h0 hc8 htp
        rw [hdl] at this
        rw [show (match c :: r with | [] => false | c :: r => decide (c ≠ 48) && isDig c && r.all isDig) = (decide (c ≠ 48) && isDig c && r.all isDig) from rfl, decide_eq_true h8, Bool.true_and]
        exact this

def numV (l : List UInt8) : Int := if numB l = true ∧ l.length ≤ 11 ∧ -2147483648 ≤ sval l ∧ sval l ≤ 2147483647 then sval l else 0
def numE (l : List UInt8) : Int := if numB l = true then (if l.length ≤ 11 ∧ -2147483648 ≤ sval l ∧ sval l ≤ 2147483647 then 0 else 23) else 11

set_option maxRecDepth 100000 in
set_option maxHeartbeats 1000000 in
theorem number_any (s : ByteArray) (tp : TypeId) (p : Value) (w : World) (hs : s.size ≤ maxLen) (hvar : w.var? Tryd.prog "strconv.ErrRange" = some #[.iface tp p]) :
    Calls Tryd.prog 68 #[.string s] w fun e w' => e = .returned (.tuple #[.int .i32 (numV s.data.toList), .int .i64 (numE s.data.toList)]) ∧ Below w.heap.size w w' := by
  have hnum := fun w => isNumeral_any s w hs
  have hlen : s.data.toList.length = s.size := (Lib.size_eq s).symm
  unfold maxLen at hs
  cases hN : numB s.data.toList
  · rw [hN] at hnum
    rw [show numV s.data.toList = 0 by unfold numV; rw [if_neg (by rw [hN]; simp)], show numE s.data.toList = 11 by unfold numE; rw [if_neg (by rw [hN]; simp)]]
    clear hvar hN hlen
    go_enter Tryd.func68, Tryd.ntmps68
    go_wp2_with (go_at_call 76; refine (hnum _).mono ?_; rintro e w' ⟨rfl, rfl⟩)
    go_ret2
    exact ⟨rfl, Below.refl _ _⟩
  · rw [hN] at hnum
    by_cases h11 : s.size ≤ 11
    · have hp := parse_numB hN
      by_cases hr : -2147483648 ≤ sval s.data.toList ∧ sval s.data.toList ≤ 2147483647
      · rw [if_pos hr] at hp
        rw [show numV s.data.toList = sval s.data.toList by unfold numV; rw [if_pos ⟨hN, by omega, hr⟩], show numE s.data.toList = 0 by unfold numE; rw [if_pos hN, if_pos ⟨by omega, hr⟩]]
        have hpc := fun w => Tryd.strconv_ParseInt_10_at32_ok s (by omega) _ hp w
        obtain ⟨hr1, hr2⟩ := hr
        generalize sval s.data.toList = v at hpc hr1 hr2
        clear hvar hN hlen hp
        go_enter Tryd.func68, Tryd.ntmps68
        go_wp2_with (first | (go_at_call 76; refine (hnum _).mono ?_; rintro e w' ⟨rfl, rfl⟩) | (go_at_call 77; refine (hpc _).mono ?_; rintro e w1 ⟨rfl, hw1⟩))
        go_ret2
        refine ⟨rfl, ?_⟩
        rcases hw1 with rfl | ⟨t, rfl⟩
        · exact Below.refl _ _
        · exact Joins.below_bytesWorld _ _ _ _ (Nat.le_refl _)
      · rw [if_neg hr] at hp
        rw [show numV s.data.toList = 0 by unfold numV; rw [if_neg (fun h => hr h.2.2)], show numE s.data.toList = 23 by unfold numE; rw [if_pos hN, if_neg (fun h => hr h.2)]]
        have hpc := Tryd.strconv_ParseInt_10_at32_range_var s (by omega) hp tp p w hvar
        clear hvar hN hlen hp hr
        go_enter Tryd.func68, Tryd.ntmps68
        go_wp2_with (first | (go_at_call 76; refine (hnum _).mono ?_; rintro e w' ⟨rfl, hwe⟩; subst hwe) | (go_at_call 77; refine hpc.mono ?_; rintro e w1 ⟨N, rfl, _, _, hb1⟩))
        go_ret2
        exact ⟨rfl, hb1⟩
    · rw [show numV s.data.toList = 0 by unfold numV; rw [if_neg (fun h => by omega)], show numE s.data.toList = 23 by unfold numE; rw [if_pos hN, if_neg (fun h => by omega)]]
      have h11' : (11 : Int) < (s.size : Int) := by omega
      clear hvar hN hlen
      go_enter Tryd.func68, Tryd.ntmps68
      go_wp2_with (go_at_call 76; refine (hnum _).mono ?_; rintro e w' ⟨rfl, rfl⟩)
      go_ret2
      exact ⟨rfl, Below.refl _ _⟩

end Go.Proofs.YtcajejfddfiidaaDoor.Nm
