import Derived.Test.YtbgfeogigjjmdaaHyM
import Derived.Deep.CutRange
import Derived.Deep.CutBlock
import Derived.Laws.Concat
namespace Go.Proofs.Ytbgfeogigjjmdaa
open Go.RowKit
set_option linter.unusedVariables false

theorem tab_i64 : ∀ x : Nat, x < 16 → ∀ w : World, Sem.run Try.prog (Instr.index 9 (.string ⟨#[48, 49, 50, 51, 52, 53, 54, 55, 56, 57, 65, 66, 67, 68, 69, 70]⟩) (.int .i64 (x : Int))) w = .ok (.int .u8 ((hl x : Nat) : Int)) w := by
  intro x hx w
  have : x = 0 ∨ x = 1 ∨ x = 2 ∨ x = 3 ∨ x = 4 ∨ x = 5 ∨ x = 6 ∨ x = 7 ∨ x = 8 ∨ x = 9 ∨ x = 10 ∨ x = 11 ∨ x = 12 ∨ x = 13 ∨ x = 14 ∨ x = 15 := by omega
  rcases this with rfl | rfl | rfl | rfl | rfl | rfl | rfl | rfl | rfl | rfl | rfl | rfl | rfl | rfl | rfl | rfl <;> (refine Eq.trans (b := .ok (.int .u8 _) w) ?_ rfl; rfl)
theorem turn_str (L : List UInt8) (i : Nat) (v : UInt8) (h : i < L.length) : ((bs L).extract 0 i ++ bs [v]) ++ (bs L).extract (i + 1) (bs L).size = bs (L.set i v) := by
  apply ByteArray.ext
  rw [ByteArray.data_append, ByteArray.data_append, ByteArray.data_extract, ByteArray.data_extract]
  apply Array.ext'
  rw [List.set_eq_take_append_cons_drop, if_pos h]
  rw [bs_size]
  simp [bs]
  exact List.take_of_length_le (by simp)
theorem hl_inj {x y : Nat} (hx : x < 16) (hy : y < 16) (h : hl x = hl y) : x = y := by
  have := congrArg dg h
  rwa [dg_hl hx, dg_hl hy] at this

set_option maxRecDepth 100000 in
set_option maxHeartbeats 1000000 in
theorem digit_big (D : List Nat) (a : Option Addr) (cap : Nat) (at0 by0 : Int) (w : World) (h : 1048576 < D.length) :
    Calls Try.prog 4 #[.slice a D.length cap, .int .i64 at0, .int .i64 by0] w fun e w' => e = .returned (.bool true) ∧ Below w.heap.size w w' := by
  have h1 : (1048576 : Int) < (D.length : Int) := by omega
  have hT := toHex_big D a cap w h
  go_enter Try.func4, Try.ntmps4
  go_wp2_with (go_at_call 6; (with_reducible refine Calls.mono hT ?_); rintro e w2 ⟨rfl, rfl⟩)
  go_ret
  exact ⟨rfl, Below.refl _ _⟩

set_option maxRecDepth 100000 in
set_option maxHeartbeats 8000000 in
theorem digit_ok (D : List Nat) (a : Option Addr) (cap : Nat) (at0 by0 : Int) (w : World) (hD : Bs w a D) (hc : D.length ≤ cap) (hcm : cap ≤ 9223372036854775807) (h : D.length ≤ 1048576) :
    Calls Try.prog 4 #[.slice a D.length cap, .int .i64 at0, .int .i64 by0] w fun e w' => e = .returned (.bool true) ∧ Below w.heap.size w w' := by
  have h1 : ¬ (1048576 : Int) < (D.length : Int) := by omega
  have hT := toHex_ok D a cap w hD hc hcm h
  have hD' : Hid (Bs w a D) := hD
  have hSn : Hid (nl (ba (hexT D)) = hexT D) := ba_nl _ (hexT_lt D hD.1)
  have hSl : (ba (hexT D)).size = (hexT D).length := by rw [← nl_len, hSn.out]
  have hSm := hexT_len D h
  have hix : Hid (∀ (k : Nat), k < (ba (hexT D)).size → ∀ W : World, Sem.run Try.prog (Instr.index 9 (.string (ba (hexT D))) (.int .i64 (k : Int))) W = .ok (.int .u8 (((hexT D).getD k 0 : Nat) : Int)) W) := by
    intro k hk W
    have := idx (ba (hexT D)) k hk W
    rw [← nl_get _ k hk, hSn.out] at this
    exact this
  have hsg : Hid (∀ k, k < (ba (hexT D)).size → (hexT D).getD k 0 ≠ 58 → (hexT D).getD k 0 ≠ 10 → ∃ y, y < 16 ∧ (hexT D).getD k 0 = hl y) := by
    intro k hk h58 h10
    rcases hexT_sign D hD.1 ((hexT D).getD k 0) (by rw [List.getD_eq_getElem?_getD, List.getElem?_eq_getElem (by omega)]; exact List.getElem_mem (by omega)) with e | e | e
    · exact absurd e h58
    · exact absurd e h10
    · exact e
  obtain ⟨hL12, hLast⟩ := hexT_last D
  rw [← hSl] at hL12 hLast
  have hLast' : Hid ((hexT D).getD ((ba (hexT D)).size - 2) 0 = 70) := hLast
  have htn : Hid (∀ i z, i < (ba (hexT D)).size → (hexT D).getD i 0 ≠ 58 → (hexT D).getD i 0 ≠ 10 → z < 16 → hl z ≠ (hexT D).getD i 0 → ∃ c col, runU st0 1 (cutU (((hexT D).set i (hl z)).map UInt8.ofNat)) = .error (c, 1 + ((hexT D).take i).count 10, col) ∧ 0 < c) := by
    intro i z hi h58 h10 hz hne
    obtain ⟨c, col, e, h0⟩ := run_turn D hD.1 h i (hl z) (by omega) h10 h58 ⟨z, hz, rfl⟩ hne
    refine ⟨c, col, ?_, h0⟩
    rw [run_text _ _, e]
    intro x hx
    rcases List.mem_or_eq_of_mem_set hx with h | rfl
    · exact hexT_lt D hD.1 x h
    · exact hl_lt hz
  have hwh : Hid (runU st0 1 (cutU ((hexT D).map UInt8.ofNat)) = .ok ⟨D, false, true⟩) := by
    show _ = _
    rw [run_text _ (hexT_lt D hD.1)]
    exact run_hex D hD.1 h
  have hbs : Hid (ba (hexT D) = bs ((hexT D).map UInt8.ofNat)) := ba_bs _
  have hS256 := getD_lt (hexT_lt D hD.1)
  have hsz : (ba (hexT D)).size ≤ 4000000 := by omega
  have hSL : Hid ((hexT D).length = (ba (hexT D)).size) := hSl.symm
  generalize hexT D = S at *
  generalize ba S = tx at *
  clear hD hSn hSl hSm hLast
  have e0 : ((tx.size : Int) == 0) = false := beq_eq_false_iff_ne.2 (by omega)
  have t1 : Int.tmod at0 (tx.size : Int) < (tx.size : Int) := Int.tmod_lt_of_pos _ (by omega)
  have t2 : -(tx.size : Int) < Int.tmod at0 (tx.size : Int) := by
    have := Int.lt_tmod_of_pos at0 (b := (tx.size : Int)) (by omega)
    exact this
  go_enter Try.func4, Try.ntmps4
  go_upto_if 41 with (go_at_call 6; (with_reducible refine Calls.mono hT ?_); rintro e w1 ⟨rfl, hE1⟩)
  go_cut [9] from 36 (fun s9 wx => ∃ i : Nat, s9 = .int .i64 i ∧ i ≤ tx.size ∧ w1 = wx)
  case first =>
    by_cases hneg : Int.tmod at0 (tx.size : Int) < 0
    · go_wp2
      go_meet
      case rel => exact ⟨(-Int.tmod at0 (tx.size : Int)).toNat, by go_num, by omega, rfl⟩
    · go_wp2
      go_meet
      case rel => exact ⟨(Int.tmod at0 (tx.size : Int)).toNat, by go_num, by omega, rfl⟩
  case rest =>
  obtain ⟨i0, rfl, hi0, rfl⟩ := hcut
  clear t1 t2
  go_upto_block 0 with fail
  go_cut [9] from 44 (fun s9 wx => ∃ i : Nat, s9 = .int .i64 i ∧ i ≤ tx.size ∧ Hid (i < tx.size → S.getD i 0 ≠ 58 ∧ S.getD i 0 ≠ 10) ∧ w1 = wx)
  case first =>
    go_wp2_with fail
    go_loopg [9] (tx.size - i0) (fun gk i wr => ∃ k : Nat, k + gk = tx.size ∧ i = .int .i64 k ∧ w1 = wr)
    case atStart => exact ⟨i0, by omega, rfl, rfl⟩
    case round =>
      obtain ⟨k, hk, rfl, rfl⟩ := hrel
      by_cases hlt : k < tx.size
      · have hI := hix.out k hlt
        have hk1 : (k : Int) < (tx.size : Int) := by omega
        have hcl : Hid (S.getD k 0 = 58 ∨ S.getD k 0 = 10 ∨ (S.getD k 0 ≠ 58 ∧ S.getD k 0 ≠ 10)) := by show _ ∨ _; omega
        generalize hxe : S.getD k 0 = x at hI hcl
        have hxe' : Hid (S.getD k 0 = x) := hxe
        clear hxe
        rcases hcl.out with hq | hq | hq
        · have y1 : ((x : Int) == 58) = true := beq_iff_eq.2 (by omega)
          clear hcl
          go_wp2
          go_roundg (tx.size - (k + 1))
          case measure => go_light; omega
          case rel => exact ⟨k + 1, by omega, by go_num, rfl⟩
        · have y1 : ((x : Int) == 58) = false := beq_eq_false_iff_ne.2 (by omega)
          have y2 : ((x : Int) == 10) = true := beq_iff_eq.2 (by omega)
          clear hcl
          go_wp2
          go_roundg (tx.size - (k + 1))
          case measure => go_light; omega
          case rel => exact ⟨k + 1, by omega, by go_num, rfl⟩
        · have y1 : ((x : Int) == 58) = false := beq_eq_false_iff_ne.2 (by omega)
          have y2 : ((x : Int) == 10) = false := beq_eq_false_iff_ne.2 (by omega)
          clear hcl
          go_wp2
          go_meet
          case rel => exact ⟨k, rfl, by omega, fun _ => by rw [hxe'.out]; exact hq, rfl⟩
      · have hk1 : ¬ (k : Int) < (tx.size : Int) := by omega
        go_wp2
        go_meet
        case rel => exact ⟨k, rfl, by omega, fun h => absurd h hlt, rfl⟩
  case rest =>
  obtain ⟨i1, rfl, hi1, hd1, rfl⟩ := hcut
  clear hi0
  go_upto_if 65 with fail
  go_cut [9] from 62 (fun s9 wx => ∃ i : Nat, s9 = .int .i64 i ∧ i < tx.size ∧ Hid (S.getD i 0 ≠ 58 ∧ S.getD i 0 ≠ 10) ∧ w1 = wx)
  case first =>
    by_cases hlt : i1 < tx.size
    · have hk1 : ¬ (tx.size : Int) ≤ (i1 : Int) := by omega
      go_wp2
      go_meet
      case rel => exact ⟨i1, rfl, hlt, hd1.out hlt, rfl⟩
    · have hk1 : (tx.size : Int) ≤ (i1 : Int) := by omega
      have hk2 : ¬ (tx.size : Int) - 2 < 0 := by omega
      go_wp2
      go_meet
      case rel => exact ⟨tx.size - 2, by go_num, by omega, ⟨by rw [hLast'.out]; omega, by rw [hLast'.out]; omega⟩, rfl⟩
  case rest =>
  obtain ⟨i, rfl, hi, hdi, rfl⟩ := hcut
  clear hi1 hd1
  obtain ⟨y, hy, hxy⟩ := hsg.out i hi hdi.out.1 hdi.out.2
  have hxy' : Hid (S.getD i 0 = hl y) := hxy
  have hI := hix.out i hi
  rw [hxy] at hI
  clear hxy
  have hii : (0 : Int) ≤ (i : Int) := by omega
  have hij : (i : Int) < (tx.size : Int) := by omega
  go_upto_block 2 with fail
  go_cut [10] from 71 (fun s10 wx => s10 = .int .i64 (y : Int) ∧ Hid (Below w.heap.size w wx))
  case first =>
    go_wp2_with fail
    go_loopg [10] y (fun gk k wr => ∃ j : Nat, j + gk = y ∧ k = .int .i64 j ∧ Hid (Below w.heap.size w wr))
    case atStart => exact ⟨0, by omega, rfl, hE1⟩
    case round =>
      obtain ⟨k, hk, rfl, hBe⟩ := hrel
      clear hE1
      by_cases hlt : k < 15
      · have hk1 : (k : Int) < 15 := by omega
        have hd1 : decide ((k : Int) < 15) = true := decide_eq_true hk1
        have hTk := tab_i64 k (by omega)
        by_cases hky : k = y
        · have hy1 : (((hl k : Nat) : Int) != ((hl y : Nat) : Int)) = false := by rw [hky]; simp
          have hky' : Hid (k = y) := hky
          clear hky
          go_wp2
          go_quiet (fail)
          go_wp2
          go_meet
          case rel => exact ⟨by rw [hky'.out], bel_drewN hBe.out⟩
        · have hy1 : (((hl k : Nat) : Int) != ((hl y : Nat) : Int)) = true := by
            rw [bne_iff_ne]
            intro e
            exact hky (hl_inj (by omega) hy (by omega))
          go_wp2
          go_quiet (fail)
          go_wp2
          go_roundg (y - (k + 1))
          case measure => go_light; omega
          case rel => exact ⟨k + 1, by omega, by go_num, bel_drewN hBe.out⟩
      · have hk1 : ¬ (k : Int) < 15 := by omega
        have hd1 : decide ((k : Int) < 15) = false := decide_eq_false hk1
        go_wp2
        go_quiet (fail)
        go_wp2
        go_meet
        case rel => exact ⟨by rw [show k = y by omega], bel_drewN hBe.out⟩
  case rest =>
  obtain ⟨rfl, hBe⟩ := hcut
  clear hE1
  have t1 : Int.tmod by0 15 < 15 := Int.tmod_lt_of_pos _ (by omega)
  have t2 : -15 < Int.tmod by0 15 := Int.lt_tmod_of_pos by0 (b := 15) (by omega)
  go_upto_if 86 with fail
  go_cut [11] from 83 (fun s11 wx => ∃ m : Nat, s11 = .int .i64 m ∧ m < 15 ∧ wc = wx)
  case first =>
    by_cases hneg : Int.tmod by0 15 < 0
    · go_wp2
      go_meet
      case rel => exact ⟨(-Int.tmod by0 15).toNat, by go_num, by omega, rfl⟩
    · go_wp2
      go_meet
      case rel => exact ⟨(Int.tmod by0 15).toNat, by go_num, by omega, rfl⟩
  case rest =>
  obtain ⟨m, rfl, hm, rfl⟩ := hcut
  clear t1 t2
  have hzi : ∀ W : World, Sem.run Try.prog (Instr.index 9 (.string ⟨#[48, 49, 50, 51, 52, 53, 54, 55, 56, 57, 65, 66, 67, 68, 69, 70]⟩) (.int .i64 (((y : Int) + 1 + (m : Int)) % 16))) W = .ok (.int .u8 ((hl ((y + 1 + m) % 16) : Nat) : Int)) W := by
    intro W
    rw [show ((y : Int) + 1 + (m : Int)) % 16 = (((y + 1 + m) % 16 : Nat) : Int) by omega]
    exact tab_i64 ((y + 1 + m) % 16) (by omega) W
  have hz16 : (y + 1 + m) % 16 < 16 := by omega
  have hzy : (y + 1 + m) % 16 ≠ y := by omega
  generalize hze : (y + 1 + m) % 16 = z at hzi hz16 hzy
  clear hze
  go_upto_block 4 with fail
  go_cut [13, 14] from 95 (fun s13 s14 wx => s13 = .int .i64 ((1 + (S.take i).count 10 : Nat) : Int) ∧ wc = wx)
  case first =>
    go_wp2_with fail
    go_loopg [13, 14] i (fun gk ln j wr => ∃ (k c : Nat), k + gk = i ∧ j = .int .i64 k ∧ ln = .int .i64 (c : Int) ∧ Hid (c = 1 + (S.take k).count 10) ∧ c ≤ 1 + k ∧ wc = wr)
    case atStart => exact ⟨0, 1, by omega, rfl, rfl, rfl, by omega, rfl⟩
    case round =>
      obtain ⟨k, c, hk, rfl, rfl, hcc, hc1, rfl⟩ := hrel
      by_cases hlt : k < i
      · have hJ := hix.out k (by omega)
        have hk1 : (k : Int) < (i : Int) := by omega
        have hT : Hid ((S.take (k + 1)).count 10 = (S.take k).count 10 + (if S.getD k 0 = 10 then 1 else 0)) := by
          show _ = _
          have hkS : k < S.length := by rw [hSL.out]; omega
          rw [List.take_succ_eq_append_getElem hkS, List.count_append, List.getD_eq_getElem?_getD, List.getElem?_eq_getElem hkS]
          simp [List.count_singleton]
        generalize S.getD k 0 = x at hJ hT
        by_cases hx10 : x = 10
        · have y1 : ((x : Int) == 10) = true := beq_iff_eq.2 (by omega)
          go_wp2
          go_roundg (i - (k + 1))
          case measure => go_light; omega
          case rel => exact ⟨k + 1, c + 1, by omega, by go_num, by go_num, by show _ = _; rw [hT.out, if_pos hx10, hcc.out]; omega, by omega, rfl⟩
        · have y1 : ((x : Int) == 10) = false := beq_eq_false_iff_ne.2 (by omega)
          go_wp2
          go_roundg (i - (k + 1))
          case measure => go_light; omega
          case rel => exact ⟨k + 1, c, by omega, by go_num, rfl, by show _ = _; rw [hT.out, if_neg hx10, hcc.out, Nat.add_zero], by omega, rfl⟩
      · have hk1 : ¬ (k : Int) < (i : Int) := by omega
        obtain rfl : k = i := by omega
        go_wp2
        go_meet
        case rel => exact ⟨by rw [hcc.out], rfl⟩
  case rest =>
  obtain ⟨rfl, rfl⟩ := hcut
  obtain ⟨c, col, hrt, hc0⟩ := htn.out i z hi hdi.out.1 hdi.out.2 hz16 (by rw [hxy'.out]; exact fun e => hzy (hl_inj hz16 hy e))
  generalize 1 + (S.take i).count 10 = ln at hrt
  have hF := fun W => fromHex_bad ((S.set i (hl z)).map UInt8.ofNat) W (by rw [List.length_map, List.length_set, hSL.out]; omega) c ln col hrt
  clear htn hrt hsg
  go_upto_region 28 with fail
  have hm1 : (i : Int) + 1 ≤ (tx.size : Int) := by omega
  have hm2 : (0 : Int) ≤ (i : Int) + 1 := by omega
  have hm0 : (i : Int) ≤ (tx.size : Int) := by omega
  have hm3 : IntKind.i64.wrap ((i : Int) + 1) = (i : Int) + 1 := by rw [IntKind.wrap_i64]; omega
  have hm4 : ((i : Int) + 1).toNat = i + 1 := by omega
  have hcvg : ∀ (W : World) (b : Nat), W.cell? ⟨b, 0, none⟩ = some (.int .u8 ((hl z : Nat) : Int)) → Sem.run Try.prog (convert 22 9 (.slice (some ⟨b, 0, none⟩) 1 1)) W = .ok (.string (bs [UInt8.ofNat (hl z)])) W := by
    intro W b hb
    have hcell : ∀ i, i < 1 → W.cell? ⟨b, 0 + i, none⟩ = some (.int .u8 ([((hl z : Nat) : Int)].getD i 0)) := by
      intro i hi
      obtain rfl : i = 0 := by omega
      exact hb
    have := run_convert_bytes_arg (P := Try.prog) W 22 5 Try.underlying22 u5 b 0 1 1 [((hl z : Nat) : Int)] rfl hcell 9 Try.underlying9
    exact this
  have q1 := hcvg (wc.alloc (.cells #[.int .u8 ((hl z : Nat) : Int)] 5)).drew wc.heap.size (by simp [go_sem])
  have q2 := hcvg ((wc.alloc (.cells #[.int .u8 ((hl z : Nat) : Int)] 5)).alloc (.cells #[.int .i64 0, .int .i64 0, .int .i64 0] 29)).drew wc.heap.size (by simp [go_sem])
  have q3 := hcvg ((wc.alloc (.cells #[.int .i64 0, .int .i64 0, .int .i64 0] 29)).alloc (.cells #[.int .u8 ((hl z : Nat) : Int)] 5)).drew (wc.heap.size + 1) (by simp [go_sem])
  clear hcvg
  have hTX : (tx.extract 0 i ++ bs [UInt8.ofNat (hl z)]) ++ tx.extract (i + 1) tx.size = bs ((S.set i (hl z)).map UInt8.ofNat) := by
    rw [hbs.out, turn_str _ _ _ (by rw [List.length_map, hSL.out]; exact hi), List.map_set]
  have g1 : (tx.extract 0 i).size + (bs [UInt8.ofNat (hl z)]).size ≤ 9223372036854775807 := by
    rw [ByteArray.size_extract, bs_size]; simp; omega
  have g2 : (tx.extract 0 i ++ bs [UInt8.ofNat (hl z)]).size + (tx.extract (i + 1) tx.size).size ≤ 9223372036854775807 := by
    rw [ByteArray.size_append, ByteArray.size_extract, ByteArray.size_extract, bs_size]; simp; omega
  have r1 : ∀ W : World, Sem.run Try.prog (Op.stringOp .add (tx.extract 0 i) (bs [UInt8.ofNat (hl z)])) W = .ok (.string (tx.extract 0 i ++ bs [UInt8.ofNat (hl z)])) W := fun W => run_string_add_sum W _ _ g1
  have r2 : ∀ W : World, Sem.run Try.prog (Op.stringOp .add (tx.extract 0 i ++ bs [UInt8.ofNat (hl z)]) (tx.extract (i + 1) tx.size)) W = .ok (.string (bs ((S.set i (hl z)).map UInt8.ofNat))) W := fun W => by
    rw [run_string_add_sum W _ _ g2, hTX]
  clear g1 g2 hTX
  generalize bs ((S.set i (hl z)).map UInt8.ofNat) = tx2 at r2 hF
  generalize tx.extract 0 i ++ bs [UInt8.ofNat (hl z)] = tx1 at r1 r2
  generalize bs [UInt8.ofNat (hl z)] = tz at q1 q2 q3 r1
  have hBw := hBe.out
  have v1 : Below w.heap.size w ((wc.alloc (.cells #[.int .i64 0, .int .i64 0, .int .i64 0] 29)).alloc (.cells #[.int .u8 ((hl z : Nat) : Int)] 5)).drew := ((hBw.alloc hBw.size _).alloc (by have := hBw.size; simp; omega) _).drew
  have v2 : Below w.heap.size w ((wc.alloc (.cells #[.int .u8 ((hl z : Nat) : Int)] 5)).alloc (.cells #[.int .i64 0, .int .i64 0, .int .i64 0] 29)).drew := ((hBw.alloc hBw.size _).alloc (by have := hBw.size; simp; omega) _).drew
  have v3 : Below w.heap.size w (wc.alloc (.cells #[.int .u8 ((hl z : Nat) : Int)] 5)).drew := (hBw.alloc hBw.size _).drew
  have b1 : Has ((wc.alloc (.cells #[.int .i64 0, .int .i64 0, .int .i64 0] 29)).alloc (.cells #[.int .u8 ((hl z : Nat) : Int)] 5)).drew wc.heap.size #[.int .i64 0, .int .i64 0, .int .i64 0] := ((Has.new wc #[.int .i64 0, .int .i64 0, .int .i64 0] 29 rfl).alloc _).drew
  have b2 : Has ((wc.alloc (.cells #[.int .u8 ((hl z : Nat) : Int)] 5)).alloc (.cells #[.int .i64 0, .int .i64 0, .int .i64 0] 29)).drew (wc.heap.size + 1) #[.int .i64 0, .int .i64 0, .int .i64 0] := (Has.new (wc.alloc (.cells #[.int .u8 ((hl z : Nat) : Int)] 5)) #[.int .i64 0, .int .i64 0, .int .i64 0] 29 (by simp)).drew
  have hFa : Hid (Calls Try.prog 7 #[.string tx2] ((wc.alloc (.cells #[.int .i64 0, .int .i64 0, .int .i64 0] 29)).alloc (.cells #[.int .u8 ((hl z : Nat) : Int)] 5)).drew fun e w' => e = .returned (.tuple #[.slice none 0 0, .agg #[.int .i64 (c : Nat), .int .i64 (ln : Nat), .int .i64 (col : Nat)]]) ∧ Below w.heap.size w w' ∧ Has w' wc.heap.size #[.int .i64 0, .int .i64 0, .int .i64 0]) := (hF _).mono fun e w' h => ⟨h.1, v1.trans (h.2.mono v1.size), b1.below h.2⟩
  have hFb : Hid (Calls Try.prog 7 #[.string tx2] ((wc.alloc (.cells #[.int .u8 ((hl z : Nat) : Int)] 5)).alloc (.cells #[.int .i64 0, .int .i64 0, .int .i64 0] 29)).drew fun e w' => e = .returned (.tuple #[.slice none 0 0, .agg #[.int .i64 (c : Nat), .int .i64 (ln : Nat), .int .i64 (col : Nat)]]) ∧ Below w.heap.size w w' ∧ Has w' (wc.heap.size + 1) #[.int .i64 0, .int .i64 0, .int .i64 0]) := (hF _).mono fun e w' h => ⟨h.1, v2.trans (h.2.mono v2.size), b2.below h.2⟩
  have hFc : Hid (Calls Try.prog 7 #[.string tx2] (wc.alloc (.cells #[.int .u8 ((hl z : Nat) : Int)] 5)).drew fun e w' => e = .returned (.tuple #[.slice none 0 0, .agg #[.int .i64 (c : Nat), .int .i64 (ln : Nat), .int .i64 (col : Nat)]]) ∧ Below w.heap.size w w') := (hF _).mono fun e w' h => ⟨h.1, v3.trans (h.2.mono v3.size)⟩
  have hws := hBw.size
  clear v1 v2 v3 b1 b2 hF hT hix hLast' hS256 e0 hxy' hzi hI hBw
  go_cut [15, 16] from 106 (fun s15 s16 wx => ∃ b : Nat, s15 = .slice none 0 0 ∧ s16 = .pointer (some ⟨b, 0, none⟩) ∧ Hid (w.heap.size ≤ b ∧ Has wx b #[.int .i64 (c : Nat), .int .i64 (ln : Nat), .int .i64 (col : Nat)]) ∧ Hid (Below w.heap.size w wx))
  case first =>
    go_region_with (first
      | (go_at_call 7; (with_reducible refine Calls.mono hFa.out ?_); rintro e w2 ⟨rfl, hE2, hH2⟩; have x0 := hH2.2.1 0; have x1 := hH2.2.1 1; have x2 := hH2.2.1 2; have z0 := hH2.2.2 0; have z1 := hH2.2.2 1; have z2 := hH2.2.2 2)
      | (go_at_call 7; (with_reducible refine Calls.mono hFb.out ?_); rintro e w2 ⟨rfl, hE2, hH2⟩; have x0 := hH2.2.1 0; have x1 := hH2.2.1 1; have x2 := hH2.2.1 2; have z0 := hH2.2.2 0; have z1 := hH2.2.2 1; have z2 := hH2.2.2 2)
      | (go_at_call 7; (with_reducible refine Calls.mono hFc.out ?_); rintro e w2 ⟨rfl, hE2⟩))
    all_goals go_wp2_with fail
    all_goals go_meet
    all_goals
      first
      | exact ⟨w2.heap.size, rfl, rfl, ⟨hE2.size, Has.new w2 _ 29 rfl⟩, hE2.alloc hE2.size _⟩
      | exact ⟨wc.heap.size, rfl, rfl, ⟨by omega, ((hH2.set 0 (by simp) _).set 1 (by simp) _).set 2 (by simp) _⟩, ((hE2.setCell (p := ⟨wc.heap.size, 0, none⟩) (by show w.heap.size ≤ wc.heap.size; omega) _).setCell (p := ⟨wc.heap.size, 1, none⟩) (by show w.heap.size ≤ wc.heap.size; omega) _).setCell (p := ⟨wc.heap.size, 2, none⟩) (by show w.heap.size ≤ wc.heap.size; omega) _⟩
      | exact ⟨wc.heap.size + 1, rfl, rfl, ⟨by omega, ((hH2.set 0 (by simp) _).set 1 (by simp) _).set 2 (by simp) _⟩, ((hE2.setCell (p := ⟨wc.heap.size + 1, 0, none⟩) (by show w.heap.size ≤ wc.heap.size + 1; omega) _).setCell (p := ⟨wc.heap.size + 1, 1, none⟩) (by show w.heap.size ≤ wc.heap.size + 1; omega) _).setCell (p := ⟨wc.heap.size + 1, 2, none⟩) (by show w.heap.size ≤ wc.heap.size + 1; omega) _⟩
  case rest =>
  obtain ⟨b, rfl, rfl, hHb, hBx⟩ := hcut
  have hF2 := fun W => fromHex_ok (S.map UInt8.ofNat) W (by rw [List.length_map, hSL.out]; omega) ⟨D, false, true⟩ hwh.out rfl
  rw [← hbs.out] at hF2
  have hDr : Hid (Bs wc a D) := hD'.out.below hBx.out
  have hc1 : ((c : Int) != 0) = true := by rw [bne_iff_ne]; omega
  have hn47 : D.length ≤ 140737488355328 := by omega
  have hBx' := hBx.out
  clear hFa hFb hFc hwh q1 q2 q3 r1 r2
  go_wp2_with (first
    | (go_at_call 7; (with_reducible refine Calls.mono (hF2 _) ?_); rintro e w3 ⟨dv, rfl, hE3, hown⟩; obtain ⟨a2, c2, rfl, hB2⟩ := own_Bs hown rfl hD'.out.1; have hDw := hDr.out.below hE3; have hb3 := (hHb.out.2.below hE3).alloc (.cells #[.int .i64 0, .int .i64 0, .int .i64 0] 29); have k0 := hb3.2.1 0; have k1 := hb3.2.1 1)
    | (go_at_call 8; (with_reducible refine Calls.mono (romBytes_same D a2 a c2 cap _ (hB2.below ((Below.refl _ _).alloc (Nat.le_refl _) _)) (hDw.below ((Below.refl _ _).alloc (Nat.le_refl _) _)) hn47) ?_); rintro e w4 ⟨rfl, hE4⟩))
  go_ret
  refine ⟨rfl, ((hBx'.trans (hE3.mono hBx'.size)).alloc (Nat.le_trans hBx'.size hE3.size) _).trans (hE4.mono ?_)⟩
  have := hE3.size; have := hBx'.size; simp; omega
end Go.Proofs.Ytbgfeogigjjmdaa
