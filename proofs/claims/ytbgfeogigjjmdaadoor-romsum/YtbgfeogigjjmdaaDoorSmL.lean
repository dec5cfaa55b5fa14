import Derived.Test.YtbgfeogigjjmdaaDoorSmC
import Derived.Lib.SlBytesConst
namespace Go.Proofs.YtbgfeogigjjmdaaDoor
open Go.RowKit
set_option linter.unusedVariables false

set_option maxRecDepth 100000 in
set_option maxHeartbeats 2000000 in
theorem law_main (a b c : Option Addr) (ca cb cc : Nat) (A B C : List Nat) (w : World) (hA : Bs w a A) (hB : Bs w b B) (hC : Bs w c C) (hT : RemOk w)
    (la : A.length ≤ ca) (lb : B.length ≤ cb) (lc : C.length ≤ cc) (ma : A.length ≤ 140737488355328) (mb : B.length ≤ 140737488355328) (mc : C.length ≤ 140737488355328) :
    Calls Tryd.prog 3 #[.slice a A.length ca, .slice b B.length cb, .slice c C.length cc] w fun e w' => e = .returned (.bool true) ∧ Below w.heap.size w w' := by
  have sA := sum_any a ca A w (by omega) hA hT
  have sB := sum_any b cb B w (by omega) hB hT
  have rA := refSum_any a ca A w (by omega) hA
  have rB := refSum_any b cb B w (by omega) hB
  have hA' : Hid (Bs w a A) := hA
  have hB' : Hid (Bs w b B) := hB
  have hC' : Hid (Bs w c C) := hC
  have hT' : Hid (RemOk w) := hT
  clear hA hB hC hT
  generalize Crc.crc A = cA at sA rA
  generalize Crc.crc B = cB at sB rB
  go_enter Tryd.func3, Tryd.ntmps3
  go_upto_if 29 with (first
    | (go_at_call 4; (with_reducible refine Calls.mono sA ?_); rintro e w2 ⟨rfl, rfl⟩)
    | (go_at_call 4; (with_reducible refine Calls.mono sB ?_); rintro e w2 ⟨rfl, rfl⟩)
    | (go_at_call 5; (with_reducible refine Calls.mono rA ?_); rintro e w2 ⟨rfl, rfl⟩)
    | (go_at_call 5; (with_reducible refine Calls.mono rB ?_); rintro e w2 ⟨rfl, rfl⟩))
  go_cut [7] from 26 (fun s7 wx => ∃ n : Nat, s7 = .int .i64 n ∧ n ≤ A.length ∧ n ≤ B.length ∧ w = wx)
  case first =>
    by_cases h : B.length < A.length
    · go_wp2
      go_meet
      case rel => exact ⟨B.length, rfl, by omega, by omega, rfl⟩
    · go_wp2
      go_meet
      case rel => exact ⟨A.length, rfl, by omega, by omega, rfl⟩
  case rest =>
  obtain ⟨n1, rfl, na1, nb1, rfl⟩ := hcut
  go_upto_if 35 with fail
  go_cut [7] from 26 (fun s7 wx => ∃ n : Nat, s7 = .int .i64 n ∧ n ≤ A.length ∧ n ≤ B.length ∧ n ≤ C.length ∧ w = wx)
  case first =>
    by_cases h : C.length < n1
    · go_wp2
      go_meet
      case rel => exact ⟨C.length, rfl, by omega, by omega, by omega, rfl⟩
    · go_wp2
      go_meet
      case rel => exact ⟨n1, rfl, by omega, by omega, by omega, rfl⟩
  case rest =>
  obtain ⟨n, rfl, na, nb, nc, rfl⟩ := hcut
  have hn0 : (0 : Int) ≤ (n : Int) := by omega
  have hna : (n : Int) ≤ (ca : Int) := by omega
  have hnb : (n : Int) ≤ (cb : Int) := by omega
  have hnc : (n : Int) ≤ (cc : Int) := by omega
  go_wp2
  go_quiet (fail)
  obtain ⟨i5, hi, hz0, hz1, hz2⟩ := info_parts info5
  have ea : (A.take n).length = n := by rw [List.length_take]; omega
  have eb : (B.take n).length = n := by rw [List.length_take]; omega
  have ec : (C.take n).length = n := by rw [List.length_take]; omega
  have bw : Below w.heap.size w (w.drewN nq) := bel_drewN (Below.refl _ _)
  have pA : Hid (Bs w a (A.take n)) := hA'.out.take n
  have pB : Hid (Bs w b (B.take n)) := hB'.out.take n
  have pC : Hid (Bs w c (C.take n)) := hC'.out.take n
  clear hA' hB' hC' sA sB rA rB
  have hsz := bw.size
  generalize w.drewN nq = W0 at *
  generalize A.take n = A1 at *
  generalize B.take n = B1 at *
  generalize C.take n = C1 at *
  have ea' : Hid (A1.length = n) := ea
  have eb' : Hid (B1.length = n) := eb
  have ec' : Hid (C1.length = n) := ec
  clear ea eb ec
  go_wp2_with ((refine wpList_make_all _ rfl _ _ 22 rfl w.heap.size 5 i5 _ Tryd.underlying22 hi hz0 hz1 rfl .i64 .i64 n (by first | rfl | (simp [Act.eval]; done)) (by first | rfl | (simp [Act.eval]; done)) (by rw [hz2]; omega) (by unfold maxLen; omega) hsz ?_); intro W1 own hg1; have hb1 : Below w.heap.size w W1 := bel_after bw hsz (grown_none hg1); have hb2 := grown_none hg1; clear hg1)
  rw [v8_zero] at own
  generalize W0.heap.size = g at own
  have hgw : w.heap.size ≤ g := (own_lt own g rfl).1
  clear hb2 bw hsz
  have qx : ∀ i, A1.getD i 0 < 256 ∧ B1.getD i 0 < 256 ∧ C1.getD i 0 < 256 := fun i => ⟨pA.out.lt i, pB.out.lt i, pC.out.lt i⟩
  have qx' : Hid (∀ i, A1.getD i 0 < 256 ∧ B1.getD i 0 < 256 ∧ C1.getD i 0 < 256) := qx
  clear qx
  have mn : n ≤ 140737488355328 := by omega
  clear la lb lc ma mb mc hnc hnb hna nc nb na
  go_loopg [9] n (fun gk i wr => ∃ (k : Nat), k + gk = n ∧ i = .int .i64 k ∧ wr.ownsRow w.heap.size 5 1 (.slice (some ⟨g, 0, none⟩) n n) n (v8 (x3 A1 B1 C1 n k)) ∧ Below w.heap.size w wr)
  case atStart => exact ⟨0, by omega, rfl, by rw [x3_zero]; exact own, hb1⟩
  case round =>
    clear own hb1
    obtain ⟨k, hk, rfl, own, hb⟩ := hrel
    by_cases hlt : k < n
    · have h0 := qx'.out k
      obtain ⟨b1, o1, rfl, hl1, c1⟩ := pA.out.cell (by rw [ea'.out]; omega)
      obtain ⟨b2, o2, rfl, hl2, c2⟩ := pB.out.cell (by rw [eb'.out]; omega)
      obtain ⟨b3, o3, rfl, hl3, c3⟩ := pC.out.cell (by rw [ec'.out]; omega)
      have e1 := (hb.cell (p := ⟨b1, o1 + k, none⟩) hl1).trans (c1 k (by rw [ea'.out]; omega))
      have e2 := (hb.cell (p := ⟨b2, o2 + k, none⟩) hl2).trans (c2 k (by rw [eb'.out]; omega))
      have e3 := (hb.cell (p := ⟨b3, o3 + k, none⟩) hl3).trans (c3 k (by rw [ec'.out]; omega))
      have st' : Hid ((wr.setCell ⟨g, k, none⟩ (.int .u8 ((A1.getD k 0 ^^^ B1.getD k 0 ^^^ C1.getD k 0 : Nat) : Int))).ownsRow w.heap.size 5 1 (.slice (some ⟨g, 0, none⟩) n n) n (v8 (x3 A1 B1 C1 n (k + 1)))) := by
        show World.ownsRow _ _ _ _ _ _ _
        rw [← x3_set, ← v8_set]
        exact (own.stored k _).1
      clear c1 c2 c3
      generalize A1.getD k 0 = xa at e1 h0 st'
      generalize B1.getD k 0 = xb at e2 h0 st'
      generalize C1.getD k 0 = xc at e3 h0 st'
      obtain ⟨ha, hb0, hc⟩ := h0
      have q1 : bits .xor .u8 (xa : Int) (xb : Int) = ((xa ^^^ xb : Nat) : Int) := u8_xor_nat _ _ ha hb0
      have q2 : bits .xor .u8 ((xa ^^^ xb : Nat) : Int) (xc : Int) = ((xa ^^^ xb ^^^ xc : Nat) : Int) := u8_xor_nat _ _ (xor8 ha hb0) hc
      generalize xa ^^^ xb = xab at q1 q2 st'
      generalize xab ^^^ xc = xr at q2 st'
      have hfr := own.frozenAt k
      have hcl : wr.cell? ⟨g, k, none⟩ = some (.int .u8 (((x3 A1 B1 C1 n k).getD k 0 : Nat) : Int)) := by rw [own.cellAt k (by omega), v8_get _ _ (by rw [x3_len]; exact hlt)]
      have hk0 : (0 : Int) ≤ (k : Int) := by omega
      have hk1 : (k : Int) < (n : Int) := by omega
      clear own
      go_wp2
      go_region
      go_wp2
      go_roundg (n - (k + 1))
      case measure => go_light; omega
      case rel => exact ⟨k + 1, by omega, by go_num, st'.out, (hb.setCell hgw _).drew⟩
    · obtain rfl : k = n := by omega
      have hk1 : ¬ (k : Int) < (k : Int) := by omega
      have gx : Bs wr (some ⟨g, 0, none⟩) (x3 A1 B1 C1 k k) := Bs.own own (x3_len _ _ _ _ _).symm (x3_lt (fun i => (qx'.out i).1) (fun i => (qx'.out i).2.1) (fun i => (qx'.out i).2.2))
      have gT : RemOk wr := rem_below hT'.out hb
      have sX := sum_any _ k _ wr (by rw [x3_len]; omega) gx gT
      have sA := sum_any a ca A1 wr (by rw [ea'.out]; omega) (pA.out.below hb) gT
      have sB := sum_any b cb B1 wr (by rw [eb'.out]; omega) (pB.out.below hb) gT
      have sC := sum_any c cc C1 wr (by rw [ec'.out]; omega) (pC.out.below hb) gT
      have s0 := sum_any none 0 [] wr (by simp) ⟨by simp, .inl rfl⟩ gT
      rw [x3_len, x3_crc A1 B1 C1 k ea'.out eb'.out ec'.out] at sX
      rw [ea'.out] at sA
      rw [eb'.out] at sB
      rw [ec'.out] at sC
      rw [Crc.crc_nil] at s0
      have tA := Crc.crc_lt A1 (pA.out.1)
      have tB := Crc.crc_lt B1 (pB.out.1)
      have tC := Crc.crc_lt C1 (pC.out.1)
      have q1 : bits .xor .u32 ((Crc.crc A1 : Nat) : Int) ((Crc.crc B1 : Nat) : Int) = ((Crc.crc A1 ^^^ Crc.crc B1 : Nat) : Int) := xor_u32 _ _ _ tA tB rfl
      have q2 : bits .xor .u32 ((Crc.crc A1 ^^^ Crc.crc B1 : Nat) : Int) ((Crc.crc C1 : Nat) : Int) = ((Crc.crc A1 ^^^ Crc.crc B1 ^^^ Crc.crc C1 : Nat) : Int) := xor_u32 _ _ _ (Crc.xor_lt tA tB) tC rfl
      have gN : Bs (wr.alloc (.cells #[.int .u8 49, .int .u8 50, .int .u8 51, .int .u8 52, .int .u8 53, .int .u8 54, .int .u8 55, .int .u8 56, .int .u8 57] 5 (9, 10))) (some ⟨wr.heap.size, 0, none⟩) [49, 50, 51, 52, 53, 54, 55, 56, 57] := by
        refine ⟨by decide, .inr ⟨wr.heap.size, 0, rfl, by simp, fun i hi => ?_⟩⟩
        rw [cell_marked, Nat.zero_add]
        simp only [List.length_cons, List.length_nil] at hi
        have : i = 0 ∨ i = 1 ∨ i = 2 ∨ i = 3 ∨ i = 4 ∨ i = 5 ∨ i = 6 ∨ i = 7 ∨ i = 8 := by omega
        rcases this with rfl | rfl | rfl | rfl | rfl | rfl | rfl | rfl | rfl <;> rfl
      have s9 := sum_any _ 9 _ _ (by decide) gN (rem_below gT ((Below.refl _ _).alloc (Nat.le_refl _) _))
      rw [Crc.crc_nine] at s9
      have hbA := (hb.alloc hb.size (.cells #[.int .u8 49, .int .u8 50, .int .u8 51, .int .u8 52, .int .u8 53, .int .u8 54, .int .u8 55, .int .u8 56, .int .u8 57] 5 (9, 10)))
      have cl : Hid (∀ (i : Nat) (hi : i < A1.length) (v : Nat), v < 256 → v ≠ A1[i] → Crc.crc (A1.set i v) ≠ Crc.crc A1) := fun i hi v hv hne => Crc.crc_set A1 i v hi pA.out.1 hv hne
      have hzA : Hid (∃ z, Crc.crc A1 = z) := ⟨_, rfl⟩
      obtain ⟨zA, hzA⟩ := hzA.out
      rw [hzA] at sX sA tA q1 q2 cl
      have hzA' : Hid (Crc.crc A1 = zA) := hzA
      clear hzA
      generalize Crc.crc B1 = zB at *
      generalize Crc.crc C1 = zC at *
      generalize zA ^^^ zB = zAB at *
      generalize zAB ^^^ zC = zABC at *
      clear own gx gT gN
      have hcv := Lib.run_convert_bytes_const (P := Tryd.prog) wr 22 5 #[.int .u8 49, .int .u8 50, .int .u8 51, .int .u8 52, .int .u8 53, .int .u8 54, .int .u8 55, .int .u8 56, .int .u8 57] 9 9 Tryd.underlying22 Tryd.underlying5
      go_wp2_with (first
        | (go_at_call 4; (with_reducible refine Calls.mono sX ?_); rintro e w2 ⟨rfl, rfl⟩)
        | (go_at_call 4; (with_reducible refine Calls.mono sA ?_); rintro e w2 ⟨rfl, rfl⟩)
        | (go_at_call 4; (with_reducible refine Calls.mono sB ?_); rintro e w2 ⟨rfl, rfl⟩)
        | (go_at_call 4; (with_reducible refine Calls.mono sC ?_); rintro e w2 ⟨rfl, rfl⟩)
        | (go_at_call 4; (with_reducible refine Calls.mono s0 ?_); rintro e w2 ⟨rfl, rfl⟩)
        | (go_at_call 4; (with_reducible refine Calls.mono s9 ?_); rintro e w2 ⟨rfl, rfl⟩))
      clear sX sA sB sC s0 s9 hcv q1 q2
      generalize wr.alloc _ = W2 at hbA
      clear hb hk hlt hk1
      generalize k = n at *
      go_loopg [10] n (fun gk i wr => ∃ (k : Nat), k + gk = n ∧ i = .int .i64 k ∧ Below w.heap.size w wr)
      case atStart => exact ⟨0, by omega, rfl, hbA⟩
      case round =>
        clear hbA
        obtain ⟨k, hk, rfl, hb⟩ := hrel
        by_cases hlt : k < n
        · obtain ⟨b1, o1, rfl, hl1, c1⟩ := pA.out.cell (by rw [ea'.out]; omega)
          have nws : Hid (∀ j u, (v8 A1)[j]? = some u → wr.cell? ((⟨b1, o1, none⟩ : Addr).add j) = some u) := by
            intro j u hj
            have hjl : j < A1.length := by
              have := (List.getElem?_eq_some_iff.1 hj).1
              rwa [v8_len] at this
            rw [v8_get A1 j hjl] at hj
            rw [Go.WideShapes.add_plain, ← hj]
            exact (hb.cell (p := ⟨b1, o1 + j, none⟩) hl1).trans (c1 j hjl)
          have hk0 : (0 : Int) ≤ (k : Int) := by omega
          have hk1 : (k : Int) < (n : Int) := by omega
          clear c1
          go_upto_region 20 with (at_builtin; refine wpList_append_lies _ rfl _ _ 22 rfl w.heap.size 5 i5 _ 1 1 Tryd.underlying22 hi hz0 hz1 hz2 rfl (by decide) (.slice none 0 0) 0 [] rfl (World.ownsRow_nil _ _ _ _) ⟨b1, o1, none⟩ n ca (v8 A1) rfl (by rw [v8_len, ea'.out]; omega) nws.out (v8_one A1) (by omega) (by unfold maxLen; omega) (by omega) hb.size _ rfl ?_; intro gy cy W3 ow3 hg3 hat3 hlt3)
          rw [Nat.zero_add, List.nil_append] at ow3
          have hb3 : Below w.heap.size w W3 := bel_after hb hb.size (grown_none hg3)
          have hgy : w.heap.size ≤ gy := (own_lt ow3 gy rfl).1
          have hx := (qx'.out k).1
          have hcl : W3.cell? ⟨gy, k, none⟩ = some (.int .u8 ((A1.getD k 0 : Nat) : Int)) := by rw [ow3.cellAt k (by omega), v8_get _ _ (by rw [ea'.out]; exact hlt)]
          have hfr := ow3.frozenAt k
          clear hg3 hat3 hlt3 nws
          have hne0 : A1.getD k 0 = A1[k]'(by rw [ea'.out]; exact hlt) := by rw [List.getD_eq_getElem?_getD, List.getElem?_eq_getElem (by rw [ea'.out]; exact hlt)]; rfl
          obtain ⟨v, hv, hne, qv⟩ := turn_bit _ k hx
          have hcr : Hid (Crc.crc (A1.set k v) ≠ zA) := cl.out k (by rw [ea'.out]; exact hlt) v hv (by rw [← hne0]; exact hne)
          have ow4 : (W3.setCell ⟨gy, k, none⟩ (.int .u8 (v : Int))).ownsRow w.heap.size 5 1 (.slice (some ⟨gy, 0, none⟩) n cy) n (v8 (A1.set k v)) := by
            rw [← v8_set]; exact (ow3.stored k _).1
          have hb4 : Below w.heap.size w (W3.setCell ⟨gy, k, none⟩ (.int .u8 (v : Int))) := hb3.setCell hgy _
          have gY := Bs.own ow4 (by rw [List.length_set, ea'.out]) (fun x hx => by
            rcases List.mem_or_eq_of_mem_set hx with h | rfl
            · exact pA.out.1 x h
            · exact hv)
          have gT := rem_below hT'.out hb4
          have sY := sum_any _ cy _ _ (by rw [List.length_set, ea'.out]; omega) gY gT
          have sA := sum_any _ ca A1 _ (by rw [ea'.out]; omega) (pA.out.below hb4) gT
          rw [List.length_set, ea'.out] at sY
          rw [ea'.out] at sA
          have hcr2 : ((((Crc.crc (A1.set k v) : Nat) : Int)) == (zA : Int)) = false := by
            have := hcr.out
            simp; omega
          clear hcr hne0 hne ow4 gY gT
          generalize A1.getD k 0 = xk at hx hcl qv
          generalize hzY : Crc.crc (A1.set k v) = zY at hcr2 sY
          rw [hzA'.out] at sA
          go_wp2_with (first
            | (go_at_call 4; (with_reducible refine Calls.mono sY ?_); rintro e w2 ⟨rfl, rfl⟩)
            | (go_at_call 4; (with_reducible refine Calls.mono sA ?_); rintro e w2 ⟨rfl, rfl⟩))
          go_roundg (n - (k + 1))
          case measure => go_light; omega
          case rel => exact ⟨k + 1, by omega, by go_num, hb4⟩
        · obtain rfl : k = n := by omega
          have hk1 : ¬ (k : Int) < (k : Int) := by omega
          go_wp2
          go_ret
          exact ⟨rfl, hb⟩
end Go.Proofs.YtbgfeogigjjmdaaDoor
