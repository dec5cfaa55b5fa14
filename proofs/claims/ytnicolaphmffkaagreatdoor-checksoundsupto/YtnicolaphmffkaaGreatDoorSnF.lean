import Derived.Test.YtnicolaphmffkaaGreatDoorMaE
import Derived.Test.YtnicolaphmffkaaGreatDoorNesD
namespace Go.Proofs.YtnicolaphmffkaaGreatDoor
open Go.RowKit
set_option linter.unusedVariables false
set_option linter.unusedSimpArgs false

theorem td_end (z : Sz) (st : List Int) (L : List Nd) (k : Nat) (h : L.length ≤ k) : tdF z st (L.drop k) = st.getD 0 0 := by
  rw [List.drop_eq_nil_of_le h]; unfold tdF; rfl
theorem td_step (z : Sz) (st : List Int) (L : List Nd) (k : Nat) (h : k < L.length) : tdF z st (L.drop k) = if blB L[k].name L[k].line L[k].col = false then 0
    else if L[k].op < 20 then (if lvZ z L[k].op L[k].val = 0 then 0 else tdF z (st ++ [lvZ z L[k].op L[k].val]) (L.drop (k + 1)))
    else if L[k].val ≠ 0 then 0
    else if L[k].op < 30 then (if resF L[k].op (st.getD (st.length - 1) 0) 0 = 0 then 0 else tdF z (st.take (st.length - 1) ++ [resF L[k].op (st.getD (st.length - 1) 0) 0]) (L.drop (k + 1)))
    else (if resF L[k].op (st.getD (st.length - 2) 0) (st.getD (st.length - 1) 0) = 0 then 0 else tdF z (st.take (st.length - 2) ++ [resF L[k].op (st.getD (st.length - 2) 0) (st.getD (st.length - 1) 0)]) (L.drop (k + 1))) := by
  rw [List.drop_eq_getElem_cons h]
  conv => lhs; unfold tdF
theorem nodeNest_pos (op : Int) (xs : List (Int × Int)) : 0 ≤ nodeNest op xs := by
  unfold nodeNest
  have h : 0 ≤ mostK op xs := by
    match xs with
    | [] => exact Int.le_refl _
    | [x] => exact Int.le_max_left 0 _
    | x :: y :: r => exact Int.le_trans (Int.le_max_left 0 _) (Int.le_max_left _ _)
  by_cases q : opF op = true
  · rw [if_pos q]; omega
  · rw [if_neg q]; omega
theorem runSt_pos (L : List Nd) : ∀ k, k ≤ L.length → ∀ p ∈ runSt L k, 0 ≤ p.2
  | 0, _ => by intro p hp; rw [runSt_zero] at hp; cases hp
  | k + 1, h => by
    intro p hp
    rw [runSt_succ L k h] at hp
    unfold stepSt at hp
    rcases List.mem_append.1 hp with q | q
    · exact runSt_pos L k (by omega) p (List.mem_of_mem_take q)
    · rw [List.mem_singleton.1 q]; exact nodeNest_pos _ _
theorem nest_pos (L : List Nd) (h : spanF L ((L.length : Int) - 1) = 0) : 0 ≤ nestF L := by
  unfold nestF
  rw [if_pos h]
  cases hr : runSt L L.length with
  | nil => exact Int.le_refl _
  | cons p r => exact runSt_pos L L.length (Nat.le_refl _) p (by rw [hr]; exact List.mem_cons_self)
set_option maxRecDepth 100000 in
set_option maxHeartbeats 8000000 in
theorem typed_any (z : Sz) (pn : ByteArray) (ga ca da ta ka va sa : Option Addr) (gc nC cc dc tc kc vc nS sc : Nat) (stt : Int) (L : List Nd) (vn : Value) (w : World) (hN : Nds w vn L) (hf : trB L = true) (hr : ∀ x ∈ L, vOk x.val) :
    Calls Tryz.prog 44 #[(.agg #[.string pn, .slice ga z.g gc, .slice ca nC cc, .slice da z.d dc, .slice ta z.t tc, .slice ka z.c kc, .slice va z.v vc, .slice sa nS sc, .int .i64 stt]), vn] w fun e w' => e = .returned (.int .i64 (tdF z [] L)) ∧ Below w.heap.size w w' := by
  obtain ⟨H, -, h256, -, H0, H1, Hk, hop⟩ := htr L hf
  have kL := fun (k : Nat) (hk : k < L.length) (ho : lfO L[k].op) (X : World) => leafZ_any z pn ga ca da ta ka va sa gc nC cc dc tc kc vc nS sc stt L[k] (hr _ (List.getElem_mem hk)) X ho
  obtain ⟨na, nc, rfl, hc⟩ := hN
  obtain ⟨ti, hi, hi0, hi1, hi2⟩ := info_parts info3
  clear hf hr
  generalize hA : tdF z [] L = A
  have hA0 : tdF z [] (L.drop 0) = A := hA
  clear hA
  have hb0 : Below w.heap.size w (w.alloc (.cells #[.string pn, .slice ga z.g gc, .slice ca nC cc, .slice da z.d dc, .slice ta z.t tc, .slice ka z.c kc, .slice va z.v vc, .slice sa nS sc, .int .i64 stt] 31)) := bel1 _
  have K0 : Has (w.alloc (.cells #[.string pn, .slice ga z.g gc, .slice ca nC cc, .slice da z.d dc, .slice ta z.t tc, .slice ka z.c kc, .slice va z.v vc, .slice sa nS sc, .int .i64 stt] 31)) w.heap.size #[.string pn, .slice ga z.g gc, .slice ca nC cc, .slice da z.d dc, .slice ta z.t tc, .slice ka z.c kc, .slice va z.v vc, .slice sa nS sc, .int .i64 stt] := Has.new _ _ _ rfl
  go_enter Tryz.func44, Tryz.ntmps44
  go_wp2_with fail
  generalize (w.alloc (.cells #[.string pn, .slice ga z.g gc, .slice ca nC cc, .slice da z.d dc, .slice ta z.t tc, .slice ka z.c kc, .slice va z.v vc, .slice sa nS sc, .int .i64 stt] 31)) = W0 at *
  have hz0 := K0.1
  go_loopw [5, 6] (fun u i wr => ∃ (k n : Nat) (st : List Int) (xa : Option Addr) (xc : Nat), k ≤ L.length ∧ n ≤ 256 ∧ u = .slice xa n xc ∧ i = .int .i64 (k : Int) ∧ Hid (H k = n ∧ st.length = n) ∧ Hid (tdF z st (L.drop k) = A) ∧ Hid (wr.ownsRow W0.heap.size 3 1 (.slice xa n xc) n (vI st)) ∧ Hid (Below W0.heap.size W0 wr)) (fun _ i _ => L.length - (intOf i).toNat)
  case atStart => exact ⟨0, 0, [], none, 0, by omega, by omega, rfl, rfl, ⟨H0, rfl⟩, hA0, World.ownsRow_nil _ _ _ _, Below.refl _ _⟩
  case round =>
    clear hA0
    obtain ⟨k, n, st, xa, xc, hkl, hn, rfl, rfl, hbs', hq', ow', hb'⟩ := hrel
    obtain ⟨hHn, hst⟩ := hbs'.out
    have hq := hq'.out
    have ow := ow'.out
    have hb := hb'.out
    clear hbs' hq' ow' hb'
    have hbw := bel_after hb0 hb0.size hb
    by_cases hlt : k < L.length
    case neg =>
      have s1 : ¬ (k : Int) < (L.length : Int) := by omega
      obtain rfl : k = L.length := by omega
      obtain rfl : n = 1 := by omega
      rw [td_end z st L _ (Nat.le_refl _)] at hq
      obtain ⟨gs, cs', hsv, -, hgs, -⟩ := own_block ow (by omega)
      injection hsv with hsv1 _ hsv2
      subst hsv1
      subst hsv2
      have l0 : 0 < st.length := by omega
      have z0 := (ow.cellAt 0 (by omega)).trans (vI_get l0)
      rw [show st.getD 0 0 = st[0] by simp [List.getD_eq_getElem?_getD, l0]] at hq
      generalize st[0] = t0 at *
      subst hq
      clear kL hop Hk
      go_wp2_with fail
      go_ret
      exact ⟨rfl, hbw⟩
    case pos =>
      obtain ⟨g, o, rfl, hg, hx⟩ := hc.resolve_left (by intro e; rw [e] at hlt; simp at hlt)
      have hx0 := hx k hlt
      have cL := kL k hlt
      have s1 : (k : Int) < (L.length : Int) := by omega
      have s0 : (0 : Int) ≤ (k : Int) := by omega
      have tk : k + 1 ≤ L.length := hlt
      rw [td_step z st L k hlt] at hq
      have hcase := hop k hlt
      have hk1 := Hk (k + 1) tk
      clear kL hop hx hc Hk
      generalize L[k] = x at *
      obtain ⟨op, val, nm, ln, cl⟩ := x
      simp only at *
      have p0 := (hbw.cell (p := ⟨g, _, none⟩) hg).trans hx0.1
      have p1 := (hbw.cell (p := ⟨g, _, none⟩) hg).trans hx0.2.1
      have p2 := (hbw.cell (p := ⟨g, _, none⟩) hg).trans hx0.2.2.1
      have p3 := (hbw.cell (p := ⟨g, _, none⟩) hg).trans hx0.2.2.2.1
      have p4 := (hbw.cell (p := ⟨g, _, none⟩) hg).trans hx0.2.2.2.2
      clear hx0
      have hbN : Below w.heap.size w (wr.alloc (.cells #[.int .i64 op, .int .i32 val, .string nm, .int .i64 ln, .int .i64 cl] 88)) := hbw.alloc hbw.size _
      cases hbl : blB nm ln cl with
      | false =>
        rw [hbl, if_pos rfl] at hq
        subst hq
        clear cL hcase
        by_cases e0 : emB nm = true
        · have e1 := em_eq e0
          subst e1
          have e2 : ¬ (ln = 0 ∧ cl = 0) := by intro q; obtain ⟨rfl, rfl⟩ := q; simp [blB, emB] at hbl
          by_cases l0 : ln = 0
          · subst l0
            have c0 : ¬ cl = 0 := fun q => e2 ⟨rfl, q⟩
            have n0 : (cl == 0) = false := by simpa using c0
            have n1 : (cl != 0) = true := by simpa using c0
            clear hbl e0 e2
            go_wp2_with fail
            all_goals go_ret
            all_goals exact ⟨rfl, hbN⟩
          · have n0 : (ln == 0) = false := by simpa using l0
            have n1 : (ln != 0) = true := by simpa using l0
            clear hbl e0 e2
            go_wp2_with fail
            all_goals go_ret
            all_goals exact ⟨rfl, hbN⟩
        · have e1 : ¬ nm.toList = [] := by intro q; exact e0 (by unfold emB; rw [q]; rfl)
          clear hbl e0
          go_wp2_with fail
          all_goals go_ret
          all_goals exact ⟨rfl, hbN⟩
      | true =>
        rw [hbl, if_neg (by simp)] at hq
        unfold blB at hbl
        simp only [Bool.and_eq_true, decide_eq_true_eq] at hbl
        obtain ⟨e1, rfl, rfl⟩ := hbl
        have e1 := em_eq e1
        subst e1
        have hbL : Below W0.heap.size W0 (wr.alloc (.cells #[.int .i64 op, .int .i32 val, .string ⟨#[]⟩, .int .i64 0, .int .i64 0] 88)) := hb.alloc hb.size _
        have o1 := own_bel ow (bel1 (.cells #[.int .i64 op, .int .i32 val, .string ⟨#[]⟩, .int .i64 0, .int .i64 0] 88))
        have KT := K0.below hbL
        obtain ⟨_, t1, t2⟩ := id KT
        rcases hcase with ⟨ho, hH⟩ | ⟨⟨ho1, ho2⟩, hB, hn1, hH⟩ | ⟨ho1, hB, hn2, hH⟩
        · have ho20 : op < 20 := by unfold lfO at ho; omega
          have kO : ∀ X, Calls Tryz.prog 81 #[.int .i64 op] X fun e w' => e = .returned (.int .i64 0) ∧ w' = X := fun X => by have := operands_any op X; rw [if_neg (by omega), if_neg (by omega)] at this; exact this
          rw [if_pos ho20] at hq
          have cL := cL ho
          generalize lvZ z op val = tt at *
          go_wp2_with fail
          go_at_call 81
          refine Calls.mono (kO _) ?_
          rintro e wx ⟨rfl, hwx⟩
          have hwy := hwx.symm
          clear hwx
          subst hwy
          go_wp2_with fail
          go_at_call 82
          refine Calls.mono (cL _) ?_
          rintro e w2 ⟨rfl, h2⟩
          have hbM := bel_after hbL hbL.size h2
          have o2 := own_bel o1 h2
          have K2 := (Has.new wr #[.int .i64 op, .int .i32 val, .string ⟨#[]⟩, .int .i64 0, .int .i64 0] 88 rfl).below h2
          obtain ⟨_, u1, u2⟩ := id K2
          go_upto_region 21 with (at_builtin; (refine wpList_append_mine _ rfl _ _ 113 rfl W0.heap.size 3 ti _ 1 8 Tryz.underlying113 hi hi0 hi1 hi2 rfl (by decide) (.slice xa n xc) n (vI st) rfl (own_bel o2 (bel1 _)) ⟨w2.heap.size, 0, none⟩ 1 1 [.int .i64 tt] rfl rfl (cells_at (W := w2) rfl _ _) (all_one rfl) (by decide) (by unfold maxLen; omega) (by omega) (by have := hbM.size; simp; omega) ?_); intro g' c' y o3 gr _ _ _; have b3 := grown_bel (hbM.alloc hbM.size _) gr (Nat.le_refl _) (fun q hq => (own_lt o2 q hq).1))
          by_cases ht0 : tt = 0
          · rw [if_pos ht0] at hq
            subst hq
            have hbZ := bel_after hb0 hb0.size b3
            subst ht0
            go_wp2_with fail
            go_ret
            exact ⟨rfl, hbZ⟩
          · rw [if_neg ht0] at hq
            have n0 : (tt == 0) = false := by simpa using ht0
            go_wp2_with fail
            go_roundw
            case rel => exact ⟨k + 1, n + 1, st ++ [tt], _, _, by omega, by omega, rfl, by go_num, ⟨by omega, by simp; omega⟩, hq, (by show World.ownsRow _ _ _ _ _ _ _; rw [show vI (st ++ [tt]) = vI st ++ [.int .i64 tt] by simp [vI]]; exact o3), b3⟩
            case measure => simp [intOf]; omega
        · have kO : ∀ X, Calls Tryz.prog 81 #[.int .i64 op] X fun e w' => e = .returned (.int .i64 1) ∧ w' = X := fun X => by have := operands_any op X; rw [if_neg (by omega), if_pos (by omega)] at this; exact this
          rw [if_neg (by omega)] at hq
          clear cL
          by_cases v0 : val = 0
          case neg =>
            rw [if_pos v0] at hq
            subst hq
            have n0 : (val == 0) = false := by simpa using v0
            have n1 : (val != 0) = true := by simpa using v0
            go_wp2_with fail
            go_at_call 81
            refine Calls.mono (kO _) ?_
            rintro e wx ⟨rfl, hwx⟩
            have hwy := hwx.symm
            clear hwx
            subst hwy
            go_wp2_with fail
            go_ret
            exact ⟨rfl, hbN⟩
          subst v0
          rw [if_neg (by simp)] at hq
          obtain ⟨m, rfl⟩ : ∃ m, n = m + 1 := ⟨n - 1, by omega⟩
          rw [if_pos ho2, hst, show m + 1 - 1 = m by omega] at hq
          have lm : m < st.length := by omega
          rw [show st.getD m 0 = st[m] by simp [List.getD_eq_getElem?_getD, lm]] at hq
          obtain ⟨gs, cs', hsv, hcp, hgs, -⟩ := own_block ow (by omega)
          injection hsv with hsv1 _ hsv2
          subst hsv1
          subst hsv2
          have Bc := fun (X : World) (hX : X.ownsRow W0.heap.size 3 1 (.slice (some ⟨gs, 0, none⟩) (m + 1) xc) (m + 1) (vI st)) => (hX.cellAt m (by omega)).trans (vI_get lm)
          have i0 : (0 : Int) ≤ (m : Int) := by omega
          have i1 : (m : Int) < ((m + 1 : Nat) : Int) := by omega
          have i2 : (m : Int) < (m : Int) + 1 := by omega
          have kR := fun X => result_any op st[m] 0 X hB
          have zr := Bc _ ow
          have zr1 := Bc _ o1
          generalize st[m] = xx at *
          generalize resF op xx 0 = tt at *
          have KN : Has (wr.alloc (.cells #[.int .i64 op, .int .i32 0, .string ⟨#[]⟩, .int .i64 0, .int .i64 0] 88)) wr.heap.size #[.int .i64 op, .int .i32 0, .string ⟨#[]⟩, .int .i64 0, .int .i64 0] := Has.new _ _ _ rfl
          obtain ⟨_, u1, u2⟩ := id KN
          go_wp2_with fail
          go_at_call 81
          refine Calls.mono (kO _) ?_
          rintro e wx ⟨rfl, hwx⟩
          have hwy := hwx.symm
          clear hwx
          subst hwy
          go_wp2_with fail
          go_at_call 81
          refine Calls.mono (kO _) ?_
          rintro e wx ⟨rfl, hwx⟩
          have hwy := hwx.symm
          clear hwx
          subst hwy
          go_wp2_with fail
          go_quiet ((go_at_call 83; exact Calls.quiet_of_same (kR _)))
          have o2 := own_bel o1 (bel_drewN (n := nq) (Below.refl _ _))
          have hbM : Below W0.heap.size W0 ((wr.alloc (.cells #[.int .i64 op, .int .i32 0, .string ⟨#[]⟩, .int .i64 0, .int .i64 0] 88)).drewN nq) := bel_drewN hbL
          have zc := Bc _ o2
          have zf := o2.frozenAt m
          have o3 := (o2.stored m (.int .i64 tt)).1
          have b3 : Below W0.heap.size W0 (((wr.alloc (.cells #[.int .i64 op, .int .i32 0, .string ⟨#[]⟩, .int .i64 0, .int .i64 0] 88)).drewN nq).setCell ⟨gs, m, none⟩ (.int .i64 tt)) := hbM.setCell hgs _
          by_cases ht0 : tt = 0
          · rw [if_pos ht0] at hq
            subst hq
            subst ht0
            have hbZ := bel_after hb0 hb0.size b3
            go_wp2_with fail
            go_ret
            exact ⟨rfl, hbZ⟩
          · have n0 : (tt == 0) = false := by simpa using ht0
            rw [if_neg ht0] at hq
            go_wp2_with fail
            go_roundw
            case rel => exact ⟨k + 1, m + 1, st.take m ++ [tt], _, _, by omega, by omega, rfl, by go_num, ⟨by omega, by simp; omega⟩, hq, (by show World.ownsRow _ _ _ _ _ _ _; rw [← set_last hst, show vI (st.set m tt) = (vI st).set m (.int .i64 tt) by simp [vI, List.map_set]]; exact o3), b3⟩
            case measure => simp [intOf]; omega
        · have kO : ∀ X, Calls Tryz.prog 81 #[.int .i64 op] X fun e w' => e = .returned (.int .i64 2) ∧ w' = X := fun X => by have := operands_any op X; rw [if_pos ho1] at this; exact this
          rw [if_neg (by omega)] at hq
          clear cL
          by_cases v0 : val = 0
          case neg =>
            rw [if_pos v0] at hq
            subst hq
            have n0 : (val == 0) = false := by simpa using v0
            have n1 : (val != 0) = true := by simpa using v0
            go_wp2_with fail
            go_at_call 81
            refine Calls.mono (kO _) ?_
            rintro e wx ⟨rfl, hwx⟩
            have hwy := hwx.symm
            clear hwx
            subst hwy
            go_wp2_with fail
            go_ret
            exact ⟨rfl, hbN⟩
          subst v0
          rw [if_neg (by simp)] at hq
          obtain ⟨m, rfl⟩ : ∃ m, n = m + 2 := ⟨n - 2, by omega⟩
          rw [if_neg (by omega), hst, show m + 2 - 2 = m by omega, show m + 2 - 1 = m + 1 by omega] at hq
          have lm : m < st.length := by omega
          have lm1 : m + 1 < st.length := by omega
          rw [show st.getD m 0 = st[m] by simp [List.getD_eq_getElem?_getD, lm], show st.getD (m + 1) 0 = st[m + 1] by simp [List.getD_eq_getElem?_getD, lm1]] at hq
          obtain ⟨gs, cs', hsv, hcp, hgs, -⟩ := own_block ow (by omega)
          injection hsv with hsv1 _ hsv2
          subst hsv1
          subst hsv2
          have Bc := fun (X : World) (hX : X.ownsRow W0.heap.size 3 1 (.slice (some ⟨gs, 0, none⟩) (m + 2) xc) (m + 2) (vI st)) => (hX.cellAt m (by omega)).trans (vI_get lm)
          have Bd := fun (X : World) (hX : X.ownsRow W0.heap.size 3 1 (.slice (some ⟨gs, 0, none⟩) (m + 2) xc) (m + 2) (vI st)) => (hX.cellAt (m + 1) (by omega)).trans (vI_get lm1)
          have i0 : (0 : Int) ≤ (m : Int) := by omega
          have i1 : (m : Int) < ((m + 2 : Nat) : Int) := by omega
          have i2 : (m : Int) < (m : Int) + 2 := by omega
          have i3 : (m : Int) + 1 < (m : Int) + 2 := by omega
          have i4 : (0 : Int) ≤ (m : Int) + 1 := by omega
          have i5 : (m : Int) + 1 ≤ (xc : Int) := by omega
          have i6 : m + 1 ≤ xc := by omega
          have kR := fun X => result_any op st[m] st[m + 1] X hB
          have zr := Bc _ ow
          have zr1 := Bc _ o1
          have zs := Bd _ ow
          have zs1 := Bd _ o1
          generalize st[m] = xx at *
          generalize st[m + 1] = yy at *
          generalize resF op xx yy = tt at *
          have KN : Has (wr.alloc (.cells #[.int .i64 op, .int .i32 0, .string ⟨#[]⟩, .int .i64 0, .int .i64 0] 88)) wr.heap.size #[.int .i64 op, .int .i32 0, .string ⟨#[]⟩, .int .i64 0, .int .i64 0] := Has.new _ _ _ rfl
          obtain ⟨_, u1, u2⟩ := id KN
          go_wp2_with fail
          go_at_call 81
          refine Calls.mono (kO _) ?_
          rintro e wx ⟨rfl, hwx⟩
          have hwy := hwx.symm
          clear hwx
          subst hwy
          go_wp2_with fail
          go_at_call 81
          refine Calls.mono (kO _) ?_
          rintro e wx ⟨rfl, hwx⟩
          have hwy := hwx.symm
          clear hwx
          subst hwy
          go_wp2_with fail
          go_quiet ((go_at_call 83; exact Calls.quiet_of_same (kR _)))
          have o2 := own_bel o1 (bel_drewN (n := nq) (Below.refl _ _))
          have hbM : Below W0.heap.size W0 ((wr.alloc (.cells #[.int .i64 op, .int .i32 0, .string ⟨#[]⟩, .int .i64 0, .int .i64 0] 88)).drewN nq) := bel_drewN hbL
          have zc := Bc _ o2
          have zf := o2.frozenAt m
          have o3 := ownsRow_cut (m := m + 1) (by omega) (o2.stored m (.int .i64 tt)).1
          have b3 : Below W0.heap.size W0 (((wr.alloc (.cells #[.int .i64 op, .int .i32 0, .string ⟨#[]⟩, .int .i64 0, .int .i64 0] 88)).drewN nq).setCell ⟨gs, m, none⟩ (.int .i64 tt)) := hbM.setCell hgs _
          by_cases ht0 : tt = 0
          · rw [if_pos ht0] at hq
            subst hq
            subst ht0
            have hbZ := bel_after hb0 hb0.size b3
            go_wp2_with fail
            go_ret
            exact ⟨rfl, hbZ⟩
          · have n0 : (tt == 0) = false := by simpa using ht0
            rw [if_neg ht0] at hq
            go_wp2_with fail
            go_roundw
            case rel => exact ⟨k + 1, m + 1, st.take m ++ [tt], _, _, by omega, by omega, rfl, by go_num, ⟨by omega, by simp; omega⟩, hq, (by show World.ownsRow _ _ _ _ _ _ _; rw [← set_two hst, show vI ((st.set m tt).take (m + 1)) = ((vI st).set m (.int .i64 tt)).take ((m + 1) * 1) by simp [vI, List.map_set, List.map_take]]; exact o3), b3⟩
            case measure => simp [intOf]; omega
end Go.Proofs.YtnicolaphmffkaaGreatDoor
