import Derived.Test.YtcajejfddfiidaaDoorInC
import Derived.Test.YtcajejfddfiidaaDoorDrU
namespace Go.Proofs.YtcajejfddfiidaaDoor
open Go.RowKit
set_option linter.unusedVariables false
set_option linter.unusedSimpArgs false


def blR (r : Int) : Bool := decide (r = 32 ∨ r = 9 ∨ r = 10 ∨ r = 13)
set_option maxRecDepth 100000 in
set_option maxHeartbeats 2000000 in
theorem isBlank_any (r : Int) (w : World) : Calls Tryd.prog 15 #[.int .i32 r] w fun e w' => e = .returned (.bool (blR r)) ∧ w = w' := by
  by_cases h1 : r = 32
  · subst h1
    go_enter Tryd.func15, Tryd.ntmps15
    go_wp2
    go_ret
    exact ⟨rfl, rfl⟩
  by_cases h2 : r = 9
  · subst h2
    go_enter Tryd.func15, Tryd.ntmps15
    go_wp2
    go_ret
    exact ⟨rfl, rfl⟩
  by_cases h3 : r = 10
  · subst h3
    go_enter Tryd.func15, Tryd.ntmps15
    go_wp2
    go_ret
    exact ⟨rfl, rfl⟩
  have e : blR r = (r == 32 || r == 9 || r == 10 || r == 13) := by rw [Bool.eq_iff_iff]; simp [blR, h1, h2, h3]
  go_enter Tryd.func15, Tryd.ntmps15
  go_wp2
  go_ret
  exact ⟨by first | rfl | exact ret_bool e.symm, rfl⟩
theorem sl_from (X : List UInt8) (i : Nat) (h : i ≤ X.length) (w : World) : Sem.run Tryd.prog (Instr.slice 9 (.string (bs X)) (some (.int .i64 (i : Int))) none none) w = .ok (.string (bs (X.drop i))) w := by
  have h1 : (0 : Int) ≤ (i : Int) := by omega
  have h2 : (i : Int) ≤ ((bs X).size : Int) := by rw [bs_size]; omega
  simp [go_sem, h1, h2]
  first
    | done
    | (rw [if_pos (by rw [bs_size]; omega)]; rw [ext_bs, bs_size]; congr 2; exact List.take_of_length_le (by simp))
    | (rw [ext_bs, bs_size]; congr 1; exact List.take_of_length_le (by simp))
theorem sl_mid (X : List UInt8) (k i : Nat) (hk : k ≤ i) (h : i ≤ X.length) (w : World) : Sem.run Tryd.prog (Instr.slice 9 (.string (bs X)) (some (.int .i64 (k : Int))) (some (.int .i64 (i : Int))) none) w = .ok (.string (bs ((X.drop k).take (i - k)))) w := by
  have h0 : (0 : Int) ≤ (k : Int) := by omega
  have h1 : (k : Int) ≤ (i : Int) := by omega
  have h2 : (i : Int) ≤ ((bs X).size : Int) := by rw [bs_size]; omega
  simp [go_sem, h0, h1, h2]
  first
    | done
    | (rw [if_pos ⟨hk, by rw [bs_size]; omega⟩]; rw [ext_bs])
    | rw [ext_bs]
/-- What one rune of the decoder's means for words. -/
theorem rune_step (Y : List UInt8) (c : UInt8) (r : List UInt8) (hY : Y = c :: r) : (blU c = true ∧ Lib.decodeGo (bs Y) = (c.toNat, 1) ∧ blR (c.toNat : Int) = true) ∨ ∃ R sz : Nat, Lib.decodeGo (bs Y) = (R, sz) ∧ blR (R : Int) = false ∧ 1 ≤ sz ∧ sz ≤ Y.length ∧ ∀ b ∈ Y.take sz, blU b = false := by
  have hs : (bs Y).size = Y.length := bs_size Y
  have hg : (bs Y).get! 0 = c := by rw [hY]; rfl
  have hd : Lib.decodeGo (bs Y) = Utf8.decode (bs Y) 0 := by
    show (if (bs Y).size = 0 then (65533, 0) else Utf8.decode (bs Y) 0) = _
    rw [if_neg (by rw [hs, hY]; simp)]
  by_cases hc : c.toNat < 128
  · have hdc : Utf8.decode (bs Y) 0 = (c.toNat, 1) := by
      rw [Lib.decode_at, hg]
      unfold Lib.decodeN
      rw [if_pos hc]
    by_cases hb : blU c = true
    · refine .inl ⟨hb, hd.trans hdc, ?_⟩
      unfold blU at hb
      unfold blR
      simp only [decide_eq_true_eq] at hb ⊢
      omega
    · refine .inr ⟨c.toNat, 1, hd.trans hdc, ?_, Nat.le_refl _, by rw [hY]; simp, fun b hb2 => ?_⟩
      · unfold blU at hb
        unfold blR
        simp only [decide_eq_true_eq, decide_eq_false_iff_not] at hb ⊢
        omega
      · rw [hY] at hb2
        simp at hb2
        rw [hb2]
        simpa using hb
  · obtain ⟨R, sz, h1, h2, h3, h4, h5⟩ := dec_list Y c r hY (by omega)
    refine .inr ⟨R, sz, hd.trans h1, ?_, h3, h4, h5⟩
    unfold blR
    simp only [decide_eq_false_iff_not]
    omega
theorem ws_skip (X cur : List UInt8) (i sz : Nat) (h : ∀ b ∈ (X.drop i).take sz, blU b = false) : wsA cur (X.drop i) = wsA (cur ++ (X.drop i).take sz) (X.drop (i + sz)) := by
  have e : X.drop i = (X.drop i).take sz ++ X.drop (i + sz) := by rw [← List.drop_drop]; exact (List.take_append_drop _ _).symm
  conv => lhs; rw [e]
  exact wsA_skip _ _ _ h
theorem take_more (X : List UInt8) (k i sz : Nat) (h : k ≤ i) : (X.drop k).take (i - k) ++ (X.drop i).take sz = (X.drop k).take (i + sz - k) := by
  have e : X.drop i = (X.drop k).drop (i - k) := by rw [List.drop_drop]; congr 1; omega
  rw [e, show i + sz - k = (i - k) + sz by omega, List.take_add]
/-- Where a word has begun, and what there is of it. -/
def Cu (X : List UInt8) (s : Int) (i : Nat) (cur : List UInt8) : Prop := (s = -1 ∧ cur = []) ∨ ∃ k : Nat, s = (k : Int) ∧ k < i ∧ cur = (X.drop k).take (i - k) ∧ cur ≠ []
set_option maxRecDepth 100000 in
set_option maxHeartbeats 2000000 in
theorem fields1_any (l n sb fb : Nat) (X : List UInt8) (J Jx : List (List UInt8) → World → Prop) (W : World) (hX : X.length < 4611686018427387904) (hsb : W.heap[sb]? = some (.cells #[.string (bs X)] 9 (0, 0))) (hfb : W.heap[fb]? = some (.cells #[.func (.func 15) #[] #[]] 41 (0, 0)))
    (hJ : ∀ pre A B, J pre A → Below A.heap.size A B → J pre B) (hU : ∀ pre A, J pre A → Lib.Utf8Tabs 0 1 A)
    (hY : ∀ pre x W1, J pre W1 → pre ++ [x] <+: wsA [] X → YieldAt Fence.wide (n - 1) Tryd.prog l #[.string (bs x)] W1 fun e W' =>
      (e = .returned (.bool true) ∧ J (pre ++ [x]) W' ∧ W1.heap.size ≤ W'.heap.size ∧ W'.heap[sb]? = W1.heap[sb]? ∧ W'.heap[fb]? = W1.heap[fb]?) ∨ (e = .returned (.bool false) ∧ Jx (pre ++ [x]) W'))
    (h0 : J [] W) :
    CallsIn Fence.wide n Tryd.prog 31 #[.func (.yield l) #[] #[], .pointer (some ⟨sb, 0, none⟩), .pointer (some ⟨fb, 0, none⟩)] W fun e W' => (∃ v, e = .returned v) ∧ (J (wsA [] X) W' ∨ ∃ pre, pre <+: wsA [] X ∧ Jx pre W') := by
  have hJ' : Hid _ := hJ
  have hY' : Hid _ := hY
  have hU' : Hid _ := hU
  clear hJ hY hU
  have zX := bs_size X
  refine callsIn_of_wp Tryd.func31 rfl trivial ?_ rfl
  simp only [Tryd.ntmps31, List.size_toArray, List.length_cons, List.length_nil, Nat.reduceAdd, Nat.reduceSub, Array.replicate_succ, Array.replicate_zero, List.push_toArray, List.append_toArray, List.nil_append, List.cons_append]
  gi_wp2
  gi_loopg [4, 5] (X.length + 1) (fun gk t4 t5 wr => ∃ (pre : List (List UInt8)) (i : Nat) (s : Int) (cur : List UInt8), gk = X.length - i + 1 ∧ i ≤ X.length ∧ t4 = .int .i64 s ∧ t5 = .int .i64 (i : Int) ∧ Hid (Cu X s i cur) ∧ Hid (wsA [] X = pre ++ wsA cur (X.drop i)) ∧ Hid (J pre wr) ∧ Hid (wr.heap[sb]? = some (.cells #[.string (bs X)] 9 (0, 0))) ∧ Hid (wr.heap[fb]? = some (.cells #[.func (.func 15) #[] #[]] 41 (0, 0))))
  case atStart => exact ⟨[], 0, -1, [], by omega, by omega, rfl, rfl, .inl ⟨rfl, rfl⟩, by show _ = _; simp, h0, hsb, hfb⟩
  case round =>
    obtain ⟨pre, i, s, cur, hgk, hi, rfl, rfl, hcu, hws, hJw, hsw, hfw⟩ := hrel
    have c0 : wr.cell? ⟨sb, 0, none⟩ = some (.string (bs X)) := (Has.ofHeap hsw.out).2.1 0
    have d0 : wr.cell? ⟨fb, 0, none⟩ = some (.func (.func 15) #[] #[]) := (Has.ofHeap hfw.out).2.1 0
    by_cases hlt : i < X.length
    case neg =>
      obtain rfl : i = X.length := by omega
      have t1 : ¬ (X.length : Int) < ((bs X).size : Int) := by rw [bs_size]; omega
      have hws2 : Hid (wsA [] X = pre ++ wsA cur []) := by
        show _ = _
        rw [hws.out, List.drop_eq_nil_of_le (Nat.le_refl _)]
      rcases hcu.out with ⟨rfl, rfl⟩ | ⟨k, rfl, hk, hcur, hne⟩
      · have hfin : Hid (J (wsA [] X) wr) := by
          show J _ _
          rw [hws2.out]
          simpa [wsA] using hJw.out
        clear hws hws2 hcu
        gi_wp2
        go_end0
        exact ⟨⟨_, rfl⟩, .inl hfin⟩
      · have hws3 : Hid (wsA [] X = pre ++ [cur]) := by show _ = _; rw [hws2.out]; simp [wsA, hne]
        have hsl := fun (w : World) => sl_from X k (by omega) w
        have hck : X.drop k = cur := by rw [hcur]; exact (List.take_of_length_le (by simp)).symm
        rw [hck] at hsl
        have t2 : (0 : Int) ≤ (k : Int) := by omega
        obtain ⟨fn, tmps, assign, body, hy, hR⟩ := hY'.out pre cur wr hJw.out (by rw [hws3.out]; exact ⟨[], by simp⟩)
        clear hws hws2 hcu hcur hck
        gi_wp2
        refine ⟨fun h => (by cases h), hR.mono ?_⟩
        rintro e w3 (⟨rfl, hJ4, hK1, hK2, hK3⟩ | ⟨rfl, hJp⟩)
        · gi_wp2
          go_end0
          exact ⟨⟨_, rfl⟩, .inl (by rw [hws3.out]; exact hJ4)⟩
        · gi_wp2
          go_end0
          exact ⟨⟨_, rfl⟩, .inr ⟨pre ++ [cur], by rw [hws3.out]; exact ⟨[], by simp⟩, hJp⟩⟩
    have t1 : (i : Int) < ((bs X).size : Int) := by rw [bs_size]; omega
    have hsl := fun (w : World) => sl_from X i (by omega) w
    have hdc := fun (w : World) (hT : Lib.Utf8Tabs 0 1 w) => (callsIn_wide (n := n - 1)).2 (Tryd.utf8_DecodeRuneInString (bs (X.drop i)) w hT)
    have hdrop : X.drop i = X[i] :: X.drop (i + 1) := List.drop_eq_getElem_cons hlt
    have hdw := hdc wr (hU'.out pre wr hJw.out)
    have hib := fun (q : Int) (w : World) => (callsIn_wide (n := n - 1)).2 (isBlank_any q w)
    rcases rune_step (X.drop i) X[i] (X.drop (i + 1)) hdrop with ⟨hb, hd, hbR⟩ | ⟨R, sz, hd, hbR, hz1, hz2, hall⟩
    · rw [hd] at hdw
      have hwsN : Hid (wsA [] X = pre ++ (if cur = [] then wsA [] (X.drop (i + 1)) else cur :: wsA [] (X.drop (i + 1)))) := by
        show _ = _
        rw [hws.out, hdrop, wsA, if_pos hb]
      have hib2 := fun w => hib (X[i].toNat : Int) w
      rw [hbR] at hib2
      have hz : IntKind.i64.wrap ((i : Int) + 1) = (i : Int) + 1 := by rw [IntKind.wrap_i64]; omega
      clear hdc hib hd hbR hb hdrop
      generalize X[i] = ch at *
      rcases hcu.out with ⟨rfl, rfl⟩ | ⟨k, rfl, hk, hcur, hne⟩
      · have t3 : ¬ (0 : Int) ≤ -1 := by decide
        gi_wp2_with (first | (refine ⟨trivial, fun h => (by cases h), ?_⟩; gi_at_call 32; refine hdw.mono ?_; rintro e w2 ⟨rfl, hb2⟩; have hJ2 := hJ'.out _ _ _ hJw.out hb2; have hs2 := (hb2.block sb (Array.getElem?_eq_some_iff.1 hsw.out).1).trans hsw.out; have hf2 := (hb2.block fb (Array.getElem?_eq_some_iff.1 hfw.out).1).trans hfw.out; have c2 : w2.cell? ⟨sb, 0, none⟩ = some (.string (bs X)) := (Has.ofHeap hs2).2.1 0; have d2 : w2.cell? ⟨fb, 0, none⟩ = some (.func (.func 15) #[] #[]) := (Has.ofHeap hf2).2.1 0) | (refine ⟨trivial, fun h => (by cases h), ?_⟩; gi_at_call 15; refine (hib2 _).mono ?_; rintro e w9 ⟨rfl, rfl⟩))
        go_roundg (X.length - (i + 1) + 1)
        case measure => go_light; omega
        case rel => exact ⟨pre, i + 1, -1, [], rfl, by omega, rfl, by push_cast; rfl, .inl ⟨rfl, rfl⟩, by show _ = _; rw [hwsN.out]; simp, hJ2, hs2, hf2⟩
      · have t3 : (0 : Int) ≤ (k : Int) := by omega
        have hsm := fun (w : World) => sl_mid X k i (by omega) (by omega) w
        rw [← hcur] at hsm
        have hcur' : Hid _ := hcur
        clear hcur
        gi_wp2_with (first | (refine ⟨trivial, fun h => (by cases h), ?_⟩; gi_at_call 32; refine hdw.mono ?_; rintro e w2 ⟨rfl, hb2⟩; have hJ2 := hJ'.out _ _ _ hJw.out hb2; have hs2 := (hb2.block sb (Array.getElem?_eq_some_iff.1 hsw.out).1).trans hsw.out; have hf2 := (hb2.block fb (Array.getElem?_eq_some_iff.1 hfw.out).1).trans hfw.out; have c2 : w2.cell? ⟨sb, 0, none⟩ = some (.string (bs X)) := (Has.ofHeap hs2).2.1 0; have d2 : w2.cell? ⟨fb, 0, none⟩ = some (.func (.func 15) #[] #[]) := (Has.ofHeap hf2).2.1 0) | (refine ⟨trivial, fun h => (by cases h), ?_⟩; gi_at_call 15; refine (hib2 _).mono ?_; rintro e w9 ⟨rfl, rfl⟩; obtain ⟨fn, tmps, assign, body, hy, hR⟩ := hY'.out pre cur w2 hJ2 (by rw [hwsN.out, if_neg hne]; exact ⟨wsA [] (X.drop (i + 1)), by simp⟩)))
        refine ⟨fun h => (by cases h), hR.mono ?_⟩
        rintro e w3 (⟨rfl, hJ4, hK1, hK2, hK3⟩ | ⟨rfl, hJp⟩)
        · gi_wp2
          go_roundg (X.length - (i + 1) + 1)
          case measure => go_light; omega
          case rel => exact ⟨pre ++ [cur], i + 1, -1, [], rfl, by omega, rfl, by push_cast; rfl, .inl ⟨rfl, rfl⟩, by show _ = _; rw [hwsN.out, if_neg hne]; simp, hJ4, hK2.trans hs2, hK3.trans hf2⟩
        · gi_wp2
          refine bodyPost_ret (results_none rfl _ _ _) rfl ?_
          exact ⟨⟨_, rfl⟩, .inr ⟨pre ++ [cur], by rw [hwsN.out, if_neg hne]; exact ⟨wsA [] (X.drop (i + 1)), by simp⟩, hJp⟩⟩
    · rw [hd] at hdw
      have hzl : i + sz ≤ X.length := by rw [List.length_drop] at hz2; omega
      have hwsN : Hid (wsA [] X = pre ++ wsA (cur ++ (X.drop i).take sz) (X.drop (i + sz))) := by
        show _ = _
        rw [hws.out, ws_skip X cur i sz hall]
      have hnz : (X.drop i).take sz ≠ [] := by
        intro e
        have := congrArg List.length e
        rw [List.length_take] at this
        simp at this
        omega
      have hib2 := fun w => hib (R : Int) w
      rw [hbR] at hib2
      have hz : IntKind.i64.wrap ((i : Int) + (sz : Int)) = (i : Int) + (sz : Int) := by rw [IntKind.wrap_i64]; omega
      have hnz' : Hid _ := hnz
      clear hdc hib hd hbR hall hdrop hnz
      rcases hcu.out with ⟨rfl, rfl⟩ | ⟨k, rfl, hk, hcur, hne⟩
      · have t3 : (-1 : Int) < 0 := by decide
        gi_wp2_with (first | (refine ⟨trivial, fun h => (by cases h), ?_⟩; gi_at_call 32; refine hdw.mono ?_; rintro e w2 ⟨rfl, hb2⟩; have hJ2 := hJ'.out _ _ _ hJw.out hb2; have hs2 := (hb2.block sb (Array.getElem?_eq_some_iff.1 hsw.out).1).trans hsw.out; have hf2 := (hb2.block fb (Array.getElem?_eq_some_iff.1 hfw.out).1).trans hfw.out; have c2 : w2.cell? ⟨sb, 0, none⟩ = some (.string (bs X)) := (Has.ofHeap hs2).2.1 0; have d2 : w2.cell? ⟨fb, 0, none⟩ = some (.func (.func 15) #[] #[]) := (Has.ofHeap hf2).2.1 0) | (refine ⟨trivial, fun h => (by cases h), ?_⟩; gi_at_call 15; refine (hib2 _).mono ?_; rintro e w9 ⟨rfl, rfl⟩))
        go_roundg (X.length - (i + sz) + 1)
        case measure => go_light; omega
        case rel => exact ⟨pre, i + sz, i, (X.drop i).take sz, rfl, hzl, rfl, by push_cast; rfl, .inr ⟨i, rfl, by omega, by rw [show i + sz - i = sz by omega], hnz'⟩, by show _ = _; rw [hwsN.out, List.nil_append], hJ2, hs2, hf2⟩
      · have t3 : ¬ (k : Int) < 0 := by omega
        have hcur' : Hid (cur = (X.drop k).take (i - k)) := hcur
        clear hcur
        gi_wp2_with (first | (refine ⟨trivial, fun h => (by cases h), ?_⟩; gi_at_call 32; refine hdw.mono ?_; rintro e w2 ⟨rfl, hb2⟩; have hJ2 := hJ'.out _ _ _ hJw.out hb2; have hs2 := (hb2.block sb (Array.getElem?_eq_some_iff.1 hsw.out).1).trans hsw.out; have hf2 := (hb2.block fb (Array.getElem?_eq_some_iff.1 hfw.out).1).trans hfw.out; have c2 : w2.cell? ⟨sb, 0, none⟩ = some (.string (bs X)) := (Has.ofHeap hs2).2.1 0; have d2 : w2.cell? ⟨fb, 0, none⟩ = some (.func (.func 15) #[] #[]) := (Has.ofHeap hf2).2.1 0) | (refine ⟨trivial, fun h => (by cases h), ?_⟩; gi_at_call 15; refine (hib2 _).mono ?_; rintro e w9 ⟨rfl, rfl⟩))
        go_roundg (X.length - (i + sz) + 1)
        case measure => go_light; omega
        case rel => exact ⟨pre, i + sz, k, cur ++ (X.drop i).take sz, rfl, hzl, rfl, by push_cast; rfl, .inr ⟨k, rfl, by omega, by rw [hcur'.out, take_more X k i sz (by omega)], by simp [hne]⟩, hwsN, hJ2, hs2, hf2⟩
end Go.Proofs.YtcajejfddfiidaaDoor
