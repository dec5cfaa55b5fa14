import Derived.Test.YtcehnibfmhbeiabDoorRows
import Derived.Test.YtcehnibfmhbeiabDoorShelf
import Derived.Test.YtcehnibfmhbeiabDoorMath
import Derived.WalkKit
import Derived.WalkSpells
import Derived.Deep.DeepMust
namespace Go.Proofs.YtcehnibfmhbeiabDoor
open Go.RowKit
set_option linter.unusedVariables false

theorem ret_bool {a b : Bool} (h : a = b) : Ending.returned (.bool a) = .returned (.bool b) := by rw [h]
theorem trim_body (l : List UInt8) : Lib.trimPrefix l [45] = body l := by
  cases l with
  | nil => rfl
  | cons c r =>
    unfold Lib.trimPrefix Lib.hasPrefix body
    by_cases h : c = 45
    · subst h; simp
    · have h' : ¬ 45 = c := fun e => h e.symm
      simp [h, h']
theorem body_le (l : List UInt8) : (body l).length ≤ l.length := by
  cases l with
  | nil => simp [body]
  | cons c r => by_cases h : c = 45 <;> simp [body, h]
theorem numB_not {l : List UInt8} (h : l ≠ [48]) : numB l = (match body l with | [] => false | c :: r => decide (c ≠ 48) && isDig c && r.all isDig) := by
  unfold numB; rw [decide_eq_false h, Bool.false_or]; cases body l <;> rfl
theorem all_dig (d : ByteArray) : d.data.toList.all isDig = true ↔ ∀ i (h : i < d.size), isDig d[i] = true := by
  rw [List.all_eq_true]
  constructor
  · intro h i hi
    exact h _ (List.mem_iff_getElem.2 ⟨i, by simpa using hi, by simp [ByteArray.getElem_eq_getElem_data]⟩)
  · intro h x hx
    obtain ⟨i, hi, rfl⟩ := List.mem_iff_getElem.1 hx
    exact h i (by simpa using hi)
theorem isDig_eq (c : UInt8) : isDig c = true ↔ 48 ≤ c.toNat ∧ c.toNat ≤ 57 := by simp [isDig]

set_option maxRecDepth 100000 in
set_option maxHeartbeats 1000000 in
/-- The loop over the digits. -/
theorem isNumeral_loop (s d : ByteArray) (w : World) (hs : d.size ≤ 9223372036854775807) (h48 : (s.toList == [48]) = false) (hne : d.toList.isEmpty = false) (h0 : 0 < d.size) (hc : ((d[0].toNat : Int) == 48) = false)
    (htp : ∀ w, Calls Tryd.prog 13 #[.string s, .string ⟨#[45]⟩] w fun e w' => e = .returned (.string d) ∧ w' = w) :
    Calls Tryd.prog 8 #[.string s] w fun e w' => e = .returned (.bool (d.data.toList.all isDig)) ∧ w' = w := by
  have hall := all_dig d
  generalize d.data.toList.all isDig = A at hall
  have hall' : Hid (A = true ↔ ∀ i (h : i < d.size), isDig d[i] = true) := hall
  clear hall
  go_enter Tryd.func8, Tryd.ntmps8
  go_wp2_with (go_at_call 13; refine (htp _).mono ?_; rintro e w' ⟨rfl, rfl⟩)
  go_loop [18] (fun i => ∃ k : Nat, k ≤ d.size ∧ i = .int .i64 k ∧ ∀ j (h : j < d.size), j < k → isDig d[j] = true) (fun i => d.size - (intOf i).toNat)
  case atStart => exact ⟨0, Nat.zero_le _, rfl, fun j _ h => absurd h (Nat.not_lt_zero _)⟩
  case round =>
    obtain ⟨k, hk, rfl, hpre⟩ := hrel
    have hpre' : Hid (∀ j (h : j < d.size), j < k → isDig d[j] = true) := hpre
    clear hpre
    by_cases hlt : k < d.size
    · by_cases hlo : (d[k].toNat : Int) < 48
      · go_wp2
        go_ret
        exact ⟨ret_bool (by
          rw [eq_comm, ← Bool.not_eq_true, hall'.out]
          intro h; have := (isDig_eq _).1 (h k hlt); omega), rfl⟩
      · by_cases hhi : 57 < (d[k].toNat : Int)
        · go_wp2
          go_ret
          exact ⟨ret_bool (by
            rw [eq_comm, ← Bool.not_eq_true, hall'.out]
            intro h; have := (isDig_eq _).1 (h k hlt); omega), rfl⟩
        · have hdig : isDig d[k] = true := (isDig_eq _).2 (by omega)
          have hdig' : Hid (isDig d[k] = true) := hdig
          clear hdig
          go_wp2
          go_round
          case rel => exact ⟨k + 1, by omega, by go_num, fun j h hj => by
            by_cases e : j = k
            · subst e; exact hdig'.out
            · exact hpre'.out j h (by omega)⟩
          case measure => simp [intOf]; omega
    · go_wp2
      go_ret
      exact ⟨ret_bool (by rw [eq_comm, hall'.out]; exact fun i h => hpre'.out i h (by omega)), rfl⟩

theorem head_of {d : ByteArray} {c : UInt8} {r : List UInt8} (h : d.data.toList = c :: r) : ∃ h0 : 0 < d.size, d[0] = c := by
  have hl : d.size = r.length + 1 := by
    have := congrArg List.length h
    simpa using this
  refine ⟨by omega, ?_⟩
  have : d.data.toList[0]? = some c := by rw [h]; rfl
  rw [List.getElem?_eq_some_iff] at this
  obtain ⟨hh, e⟩ := this
  simpa [ByteArray.getElem_eq_getElem_data] using e
theorem u8_eq (c : UInt8) (n : Nat) (h : n < 256) : ((c.toNat : Int) == (n : Int)) = decide (c = UInt8.ofNat n) := by
  rw [Bool.eq_iff_iff]
  simp only [beq_iff_eq, decide_eq_true_iff]
  constructor
  · intro e; apply UInt8.toNat_inj.1; rw [UInt8.toNat_ofNat_of_lt' (by simpa using h)]; omega
  · intro e; rw [e, UInt8.toNat_ofNat_of_lt' (by simpa using h)]

set_option maxRecDepth 100000 in
set_option maxHeartbeats 1000000 in
theorem isNumeral_any (s : ByteArray) (w : World) (hs : s.size ≤ maxLen) :
    Calls Tryd.prog 8 #[.string s] w fun e w' => e = .returned (.bool (numB s.data.toList)) ∧ w' = w := by
  unfold maxLen at hs
  by_cases h48 : s.data.toList = [48]
  · have hb : (s.toList == [48]) = true := by rw [ByteArray.toList_eq, h48]; rfl
    rw [h48]
    go_enter Tryd.func8, Tryd.ntmps8
    go_wp2
    go_ret
    exact ⟨rfl, rfl⟩
  · have hb : (s.toList == [48]) = false := by rw [ByteArray.toList_eq]; simpa using h48
    have htp := fun w => Tryd.strings_TrimPrefix s ⟨#[45]⟩ w
    rw [numB_not h48]
    have hdl : (⟨(Lib.trimPrefix s.data.toList (ByteArray.mk #[45]).data.toList).toArray⟩ : ByteArray).data.toList = body s.data.toList := by
      rw [show (ByteArray.mk #[45]).data.toList = [45] from rfl, trim_body]
    have hsz : (⟨(Lib.trimPrefix s.data.toList (ByteArray.mk #[45]).data.toList).toArray⟩ : ByteArray).size ≤ s.size := by
      rw [Lib.size_eq, hdl, Lib.size_eq]; exact body_le _
    generalize (⟨(Lib.trimPrefix s.data.toList (ByteArray.mk #[45]).data.toList).toArray⟩ : ByteArray) = d at htp hdl hsz
    cases hbd : body s.data.toList with
    | nil =>
      rw [hbd] at hdl
      have he : d.toList.isEmpty = true := by rw [ByteArray.toList_eq, hdl]; rfl
      clear hbd hdl hsz
      go_enter Tryd.func8, Tryd.ntmps8
      go_wp2_with (go_at_call 13; refine (htp _).mono ?_; rintro e w' ⟨rfl, rfl⟩)
      go_ret
      exact ⟨rfl, rfl⟩
    | cons c r =>
      rw [hbd] at hdl
      have he : d.toList.isEmpty = false := by rw [ByteArray.toList_eq, hdl]; rfl
      obtain ⟨h0, hc⟩ := head_of hdl
      by_cases h8 : c = 48
      · have hc8 : ((d[0].toNat : Int) == 48) = true := by rw [hc, h8]; rfl
        have hr : (decide (c ≠ 48) && isDig c && r.all isDig) = false := by rw [decide_eq_false (by simpa using h8)]; rfl
        rw [show (match c :: r with | [] => false | c :: r => decide (c ≠ 48) && isDig c && r.all isDig) = (decide (c ≠ 48) && isDig c && r.all isDig) from rfl, hr]
        clear hbd hdl hsz hc hr
        go_enter Tryd.func8, Tryd.ntmps8
        go_wp2_with (go_at_call 13; refine (htp _).mono ?_; rintro e w' ⟨rfl, rfl⟩)
        go_ret
        exact ⟨rfl, rfl⟩
      · have hc8 : ((d[0].toNat : Int) == 48) = false := by
          have := u8_eq d[0] 48 (by decide)
          rw [hc] at this ⊢
          rw [show ((48 : Nat) : Int) = 48 from rfl] at this
          rw [this]; simpa using h8
        have := isNumeral_loop s d w (by omega) hb he h0 hc8 htp
        rw [hdl] at this
        rw [show (match c :: r with | [] => false | c :: r => decide (c ≠ 48) && isDig c && r.all isDig) = (decide (c ≠ 48) && isDig c && r.all isDig) from rfl, decide_eq_true h8, Bool.true_and]
        exact this
end Go.Proofs.YtcehnibfmhbeiabDoor
