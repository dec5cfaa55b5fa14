import Derived.Test.YtcehnibfmhbeiabDoorWalksC
namespace Go.Proofs.YtcehnibfmhbeiabDoor
open Go.RowKit
set_option linter.unusedVariables false

theorem gval_lt : ∀ (n : Nat) (l : List UInt8), l.length = n → (∀ c ∈ l, c = 45 ∨ (48 ≤ c.toNat ∧ c.toNat ≤ 57)) → gval l < 10 ^ n
  | 0, l, hl, _ => by
    have : l = [] := List.length_eq_zero_iff.1 hl
    subst this; decide
  | n + 1, l, hl, h => by
    obtain ⟨l', c, rfl⟩ : ∃ l' c, l = l' ++ [c] := by
      rcases List.eq_nil_or_concat l with e | ⟨l', c, e⟩
      · subst e; simp at hl
      · exact ⟨l', c, by simpa using e⟩
    have ih := gval_lt n l' (by simp at hl; omega) (fun d hd => h d (by simp [hd]))
    rw [gval_snoc]
    have hc := h c (by simp)
    have hp : 10 ^ (n + 1) = 10 ^ n * 10 := Nat.pow_succ 10 n
    unfold gstep
    by_cases e : c = 45
    · rw [if_pos e]; omega
    · rw [if_neg e]; have := hc.resolve_left e; omega
theorem ret_two {a a' b b' : Int} (h1 : a' = a) (h2 : b' = b) : Ending.returned (.tuple #[.int .i32 a, .int .i64 b]) = .returned (.tuple #[.int .i32 a', .int .i64 b']) := by rw [h1, h2]
theorem take_snoc (s : ByteArray) (k : Nat) (h : k < s.size) : s.data.toList.take (k + 1) = s.data.toList.take k ++ [s[k]] := by
  rw [List.take_succ_eq_append_getElem (by simpa using h)]; rfl
theorem pow_le11 (k : Nat) (h : k ≤ 11) : 10 ^ k ≤ 100000000000 := Nat.le_trans (Nat.pow_le_pow_right (by decide) h) (by decide)

set_option maxRecDepth 100000 in
set_option maxHeartbeats 1000000 in
theorem refNumber_loop (s : ByteArray) (w : World) (h11 : s.size ≤ 11) (h0 : 0 < s.size) (hN : numB s.data.toList = true)
    (hnum : ∀ w, Calls Tryd.prog 10 #[.string s] w fun e w' => e = .returned (.bool true) ∧ w' = w) (V E : Int)
    (hV : V = if -2147483648 ≤ sval s.data.toList ∧ sval s.data.toList ≤ 2147483647 then sval s.data.toList else 0)
    (hE : E = if -2147483648 ≤ sval s.data.toList ∧ sval s.data.toList ≤ 2147483647 then 0 else 23) :
    Calls Tryd.prog 5 #[.string s] w fun e w' => e = .returned (.tuple #[.int .i32 V, .int .i64 E]) ∧ w' = w := by
  have hby : Hid (∀ i (h : i < s.size), s[i] = 45 ∨ (48 ≤ s[i].toNat ∧ s[i].toNat ≤ 57)) := fun i h => num_byte hN _ (List.mem_iff_getElem?.2 ⟨i, get_of rfl i h⟩)
  have hgb : Hid (∀ k, k ≤ s.size → gval (s.data.toList.take k) < 100000000000) := by
    intro k hk
    refine Nat.lt_of_lt_of_le (gval_lt k _ (by simp; omega) (fun c hc => num_byte hN c (List.mem_of_mem_take hc))) (pow_le11 k (by omega))
  have hgv := gval_num hN
  have hval : Hid (V = if -2147483648 ≤ sval s.data.toList ∧ sval s.data.toList ≤ 2147483647 then sval s.data.toList else 0) := hV
  have hval2 : Hid (E = if -2147483648 ≤ sval s.data.toList ∧ sval s.data.toList ≤ 2147483647 then 0 else 23) := hE
  have hsv : Hid (sval s.data.toList = if s[0] = 45 then -(gval s.data.toList : Int) else (gval s.data.toList : Int)) := by
    show _ = _
    unfold sval
    have : s.data.toList.head? = some s[0] := by rw [List.head?_eq_getElem?]; exact get_of rfl 0 h0
    rw [this, hgv]; simp
  have hne : ¬ s = ByteArray.empty := by intro e; subst e; simp at h0
  clear hV hE hN hgv
  go_enter Tryd.func5, Tryd.ntmps5
  go_wp2_with (go_at_call 10; refine (hnum _).mono ?_; rintro e w' ⟨rfl, rfl⟩)
  go_loop [4, 5] (fun n i => ∃ (k : Nat) (G : Int), k ≤ s.size ∧ i = .int .i64 k ∧ n = .int .i64 G ∧ G = (gval (s.data.toList.take k) : Nat)) (fun _ i => s.size - (intOf i).toNat)
  case atStart => exact ⟨0, 0, Nat.zero_le _, rfl, rfl, rfl⟩
  case round =>
    obtain ⟨k, G, hk, rfl, rfl, hG⟩ := hrel
    have hGb := hgb.out k hk
    have hG0 : 0 ≤ G := by omega
    have hG1 : G < 100000000000 := by omega
    have hG' : Hid (G = (gval (s.data.toList.take k) : Nat)) := hG
    clear hG hGb
    by_cases hlt : k < s.size
    · have hsn : Hid (gval (s.data.toList.take (k + 1)) = gstep (gval (s.data.toList.take k)) s[k]) := by show _ = _; rw [take_snoc s k hlt, gval_snoc]
      by_cases h45 : s[k] = 45
      · have hb45 : ((s[k].toNat : Int) == 45) = true := by rw [h45]; rfl
        have h45' : Hid (s[k] = 45) := h45
        clear h45
        go_wp2
        go_round
        case rel => exact ⟨k + 1, G, by omega, by go_num, rfl, by rw [hsn.out]; unfold gstep; rw [if_pos h45'.out]; exact hG'.out⟩
        case measure => simp [intOf]; omega
      · have hd := (hby.out k hlt).resolve_left h45
        have hb45 : ((s[k].toNat : Int) == 45) = false := by
          have := u8_eq s[k] 45 (by decide)
          rw [show ((45 : Nat) : Int) = 45 from rfl] at this
          rw [this]; simpa using h45
        have h45' : Hid (¬ s[k] = 45) := h45
        have hc1 : (48 : Int) ≤ (s[k].toNat : Int) := by omega
        have hc2 : (s[k].toNat : Int) ≤ 57 := by omega
        clear h45 hd
        go_wp2
        go_round
        case rel => exact ⟨k + 1, _, by omega, by go_num, rfl, by rw [hsn.out]; unfold gstep; rw [if_neg h45'.out]; have := hG'.out; omega⟩
        case measure => simp [intOf]; omega
    · obtain rfl : k = s.size := by omega
      have hGv : Hid (G = (gval s.data.toList : Nat)) := by
        have := hG'.out
        rw [List.take_of_length_le (by simp)] at this
        exact this
      by_cases h45 : s[0] = 45
      · have hb45 : ((s[0].toNat : Int) == 45) = true := by rw [h45]; rfl
        have hs2 : Hid (sval s.data.toList = -G) := by
          have := hsv.out
          rw [if_pos h45, ← hGv.out] at this; exact this
        clear h45
        by_cases hr : -2147483648 ≤ -G
        · have hV2 : Hid (V = -G) := by show _ = _; rw [hval.out, hs2.out, if_pos (by omega)]
          have hE2 : Hid (E = 0) := by show _ = _; rw [hval2.out, hs2.out, if_pos (by omega)]
          go_wp2
          go_ret2
          exact ⟨ret_two hV2.out hE2.out, rfl⟩
        · have hV2 : Hid (V = 0) := by show _ = _; rw [hval.out, hs2.out, if_neg (by omega)]
          have hE2 : Hid (E = 23) := by show _ = _; rw [hval2.out, hs2.out, if_neg (by omega)]
          go_wp2
          go_ret2
          exact ⟨ret_two hV2.out hE2.out, rfl⟩
      · have hb45 : ((s[0].toNat : Int) == 45) = false := by
          have := u8_eq s[0] 45 (by decide)
          rw [show ((45 : Nat) : Int) = 45 from rfl] at this
          rw [this]; simpa using h45
        have hs2 : Hid (sval s.data.toList = G) := by
          have := hsv.out
          rw [if_neg h45, ← hGv.out] at this; exact this
        clear h45
        by_cases hr : G ≤ 2147483647
        · have hV2 : Hid (V = G) := by show _ = _; rw [hval.out, hs2.out, if_pos (by omega)]
          have hE2 : Hid (E = 0) := by show _ = _; rw [hval2.out, hs2.out, if_pos (by omega)]
          go_wp2
          go_ret2
          exact ⟨ret_two hV2.out hE2.out, rfl⟩
        · have hV2 : Hid (V = 0) := by show _ = _; rw [hval.out, hs2.out, if_neg (by omega)]
          have hE2 : Hid (E = 23) := by show _ = _; rw [hval2.out, hs2.out, if_neg (by omega)]
          go_wp2
          go_ret2
          exact ⟨ret_two hV2.out hE2.out, rfl⟩

set_option maxRecDepth 100000 in
set_option maxHeartbeats 1000000 in
theorem refNumber_any (s : ByteArray) (w : World) (hs : s.size ≤ maxLen) :
    Calls Tryd.prog 5 #[.string s] w fun e w' => e = .returned (.tuple #[.int .i32 (numV s.data.toList), .int .i64 (numE s.data.toList)]) ∧ w' = w := by
  have hnum := fun w => refNumeral_any s w hs
  have hlen : s.data.toList.length = s.size := (Lib.size_eq s).symm
  unfold maxLen at hs
  cases hN : numB s.data.toList
  · rw [hN] at hnum
    rw [show numV s.data.toList = 0 by unfold numV; rw [if_neg (by rw [hN]; simp)], show numE s.data.toList = 11 by unfold numE; rw [if_neg (by rw [hN]; simp)]]
    clear hN hlen
    go_enter Tryd.func5, Tryd.ntmps5
    go_wp2_with (go_at_call 10; refine (hnum _).mono ?_; rintro e w' ⟨rfl, rfl⟩)
    go_ret2
    exact ⟨rfl, rfl⟩
  · rw [hN] at hnum
    by_cases h11 : s.size ≤ 11
    · have h0 : 0 < s.size := by
        obtain ⟨c, r, hb, _⟩ := numB_body hN
        rcases Nat.eq_zero_or_pos s.size with e | e
        · have : s.data.toList = [] := List.length_eq_zero_iff.1 (by omega)
          rw [this] at hb; cases hb
        · exact e
      refine refNumber_loop s w h11 h0 hN hnum _ _ ?_ ?_
      · unfold numV
        by_cases hr : -2147483648 ≤ sval s.data.toList ∧ sval s.data.toList ≤ 2147483647
        · rw [if_pos ⟨hN, by omega, hr⟩, if_pos hr]
        · rw [if_neg (fun h => hr h.2.2), if_neg hr]
      · unfold numE
        rw [if_pos hN]
        by_cases hr : -2147483648 ≤ sval s.data.toList ∧ sval s.data.toList ≤ 2147483647
        · rw [if_pos ⟨by omega, hr⟩, if_pos hr]
        · rw [if_neg (fun h => hr h.2), if_neg hr]
    · rw [show numV s.data.toList = 0 by unfold numV; rw [if_neg (fun h => by omega)], show numE s.data.toList = 23 by unfold numE; rw [if_pos hN, if_neg (fun h => by omega)]]
      have h11' : (11 : Int) < (s.size : Int) := by omega
      clear hN hlen
      go_enter Tryd.func5, Tryd.ntmps5
      go_wp2_with (go_at_call 10; refine (hnum _).mono ?_; rintro e w' ⟨rfl, rfl⟩)
      go_ret2
      exact ⟨rfl, rfl⟩
end Go.Proofs.YtcehnibfmhbeiabDoor
