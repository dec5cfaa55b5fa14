import Derived.Test.YtcajejfddfiidaaDoorDrC
namespace Go.Proofs.YtcajejfddfiidaaDoor
open Go.RowKit
set_option linter.unusedVariables false
set_option linter.unusedSimpArgs false

theorem gHd_size (d : ByteArray) (Q R : Nat) : (gHd d Q R).size ≤ d.size := by
  unfold gHd
  split
  · exact Nat.zero_le _
  · rw [ByteArray.size_extract]; omega
set_option maxRecDepth 100000 in
set_option maxHeartbeats 4000000 in
theorem refRetrace_any (d : ByteArray) (w : World) (hs : d.size ≤ 140737488355328) :
    Calls Tryd.prog 13 #[.string d] w fun e w' => RtP (rtR d) w e w' := by
  obtain ⟨ti', hj, hiv⟩ := Option.map_eq_some_iff.1 infoN
  injection hiv with hj0 hiv
  injection hiv with hj1 hj2
  have k28 := fun (c : UInt8) (i : Nat) (hi : i ≤ d.size + 1) (X : World) => upTo_any d c i X (by omega) (by omega)
  have k29 := fun (i : Nat) (hi : i ≤ d.size + 1) (X : World) => digits_any d i X (by omega) (by omega)
  obtain ⟨A, hA⟩ : ∃ A, gsF d (d.size + 1) 0 [] = A := ⟨_, rfl⟩
  have hA0 : Hid (gsF d (d.size + 1) 0 [] = A) := hA
  have hP : rtR d = A.bind fun L => if trA L = some d then some L else none := by unfold rtR; rw [hA]
  rw [hP]
  clear hA hP
  go_enter Tryd.func13, Tryd.ntmps13
  go_wp2_with fail
  go_loopw [4, 5] (fun v x wr => ∃ (L : List En) (i m : Nat), i ≤ d.size + 1 ∧ d.size + 1 ≤ i + m ∧ L.length ≤ 65536 ∧ x = .int .i64 (i : Int) ∧ Hid (∀ e ∈ L, e.heads.size ≤ d.size) ∧ Hid (gsF d m i L = A) ∧ Hid (wr.ownsRow w.heap.size 34 2 v L.length (cellsF En.cs L)) ∧ Hid (Below w.heap.size w wr)) (fun _ x _ => d.size + 1 - (intOf x).toNat)
  case atStart => exact ⟨[], 0, d.size + 1, by omega, by omega, by simp, rfl, (by intro e he; cases he), hA0, World.ownsRow_nil _ _ _ _, Below.refl _ _⟩
  case round =>
    clear hA0
    obtain ⟨L, i, m, hi, him, hl, rfl, hh, hq', ho', hb'⟩ := hrel
    have hq := hq'.out
    have ho := ho'.out
    have hb := hb'.out
    clear hq' ho' hb'
    have hF : ∃ va vc, u4 = .slice va L.length vc ∧ Fl 2 En.cs wr u4 L := by
      rcases ho.2 with ⟨e1, e2⟩ | ⟨g', cap', cur, e1, hbg, hgg, hnc, _⟩
      · have : L = [] := List.length_eq_zero_iff.1 e2
        subst this
        exact ⟨none, 0, e1, .inl ⟨e1, rfl⟩⟩
      · refine ⟨_, _, e1, ?_⟩
        rw [e1] at ho ⊢
        have := Fl.own (n := L.length) (c' := cap') en_len ho ((own_lt ho g' rfl).2) (Nat.le_refl _) hnc
        rw [List.take_length] at this
        exact this
    obtain ⟨va, vc, rfl, hF⟩ := hF
    by_cases hlt : i < d.size
    case neg =>
      have t1 : ¬ (i : Int) < (d.size : Int) := by omega
      rw [gsF_end d m i L hlt] at hq
      subst hq
      clear k28 k29
      have k30 := refTrace_any L _ wr hF (fun e he => by have := hh.out e he; omega) (by omega)
      generalize hO : trA L = O at *
      cases O with
      | none =>
        have hX : ((some L).bind fun L => if trA L = some d then some L else none) = none := by show (if trA L = some d then some L else none) = none; rw [hO]; simp
        simp only [anV] at k30
        go_wp2_with fail
        go_at_call 30
        refine Calls.mono k30 ?_
        rintro e w1 ⟨rfl, h1⟩
        have hb1 := bel_after hb hb.size h1
        go_wp2_with fail
        go_ret2
        rw [hX]
        exact ⟨rfl, hb1⟩
      | some tx =>
        simp only [anV] at k30
        have hF1 := fun (X : World) (hX : Below wr.heap.size wr X) => hF.below hX
        go_wp2_with fail
        go_at_call 30
        refine Calls.mono k30 ?_
        rintro e w1 ⟨rfl, h1⟩
        have hb1 := bel_after hb hb.size h1
        have hF2 := hF1 _ h1
        cases hT : (tx.toList == d.toList) with
        | true =>
          have htx : tx = d := WideShapes.bytes_inj (by rw [← ByteArray.toList_eq, ← ByteArray.toList_eq]; simpa using hT)
          have hX : ((some L).bind fun L => if trA L = some d then some L else none) = some L := by show (if trA L = some d then some L else none) = some L; rw [hO, htx]; simp
          have hT2 : tx.toList = d.toList := by rw [htx]
          go_wp2_with fail
          go_ret2
          rw [hX]
          exact ⟨_, rfl, hF2, hb1⟩
        | false =>
          have hne : ¬ tx = d := fun e => by rw [e] at hT; simp at hT
          have hX : ((some L).bind fun L => if trA L = some d then some L else none) = none := by show (if trA L = some d then some L else none) = none; rw [hO]; simp [hne]
          have hT2 : ¬ tx.toList = d.toList := by simpa using hT
          go_wp2_with fail
          go_ret2
          rw [hX]
          exact ⟨rfl, hb1⟩
    obtain ⟨m, rfl⟩ : ∃ m', m = m' + 1 := ⟨m - 1, by omega⟩
    rw [gsF_at d m i L hlt] at hq
    unfold gsS gTo at hq
    have t1 : (i : Int) < (d.size : Int) := by omega
    have g1 := upF_ge d 10 _ i (Nat.le_refl _)
    have g2 := upF_le d 10 _ i (Nat.le_refl _) (by omega)
    have g3 := upF_ge d 32 _ i (Nat.le_refl _)
    have g4 := upF_le d 32 _ i (Nat.le_refl _) (by omega)
    have c10 := k28 10 i (by omega)
    have c32 := k28 32 i (by omega)
    go_wp2_with fail
    go_at_call 28
    refine Calls.mono (c10 _) ?_
    rintro e wx ⟨rfl, hwx⟩
    have hwy := hwx.symm
    clear hwx
    subst hwy
    go_wp2_with fail
    go_at_call 28
    refine Calls.mono (c32 _) ?_
    rintro e wx ⟨rfl, hwx⟩
    have hwy := hwx.symm
    clear hwx
    subst hwy
    clear c10 c32
    generalize hE : upF d 10 i = E at *
    generalize hQ : upF d 32 i = Q at *
    by_cases q1 : E ≤ Q
    case pos =>
      have q2 : (E : Int) ≤ (Q : Int) := by omega
      have hA3 : A = none := by rw [← hq]; simp [q1]
      subst hA3
      clear hq
      go_wp2_with fail
      go_ret2
      exact ⟨rfl, hb⟩
    have q2 : ¬ (E : Int) ≤ (Q : Int) := by omega
    rw [if_neg q1] at hq
    have g5 := upF_ge d 32 _ (Q + 1) (Nat.le_refl _)
    have g6 := upF_le d 32 _ (Q + 1) (Nat.le_refl _) (by omega)
    have c33 := k28 32 (Q + 1) (by omega)
    generalize hR : upF d 32 (Q + 1) = R at *
    go_wp2_with fail
    go_at_call 28
    refine Calls.mono (c33 _) ?_
    rintro e wx ⟨rfl, hwx⟩
    have hwy := hwx.symm
    clear hwx
    subst hwy
    clear c33
    by_cases q3 : E ≤ R
    case pos =>
      have q4 : (E : Int) ≤ (R : Int) := by omega
      have hA3 : A = none := by rw [← hq]; simp [q3]
      subst hA3
      clear hq
      go_wp2_with fail
      go_ret2
      exact ⟨rfl, hb⟩
    have q4 : ¬ (E : Int) ≤ (R : Int) := by omega
    rw [if_neg q3] at hq
    have c1 := k29 i (by omega)
    have c45 := k28 45 i (by omega)
    have g7 := upF_ge d 45 _ i (Nat.le_refl _)
    have g8 := upF_le d 45 _ i (Nat.le_refl _) (by omega)
    have cD := k29 (upF d 45 i + 1) (by omega)
    have cG := k29 (R + 1) (by omega)
    generalize hD : upF d 45 i = DA at *
    clear k28 k29
    go_wp2_with fail
    go_at_call 29
    refine Calls.mono (c1 _) ?_
    rintro e wx ⟨rfl, hwx⟩
    have hwy := hwx.symm
    clear hwx
    subst hwy
    go_wp2_with fail
    go_at_call 28
    refine Calls.mono (c45 _) ?_
    rintro e wx ⟨rfl, hwx⟩
    have hwy := hwx.symm
    clear hwx
    subst hwy
    clear c1 c45
    go_upto_if 47 with fail
    go_cut [9] from 16 to 94 (fun s9 wx => s9 = .int .i64 (if DA < Q then (digF d (DA + 1)).1 else (digF d i).1) ∧ wx = wr)
    case first =>
      by_cases q5 : DA < Q
      case pos =>
        have q6 : (DA : Int) < (Q : Int) := by omega
        go_wp2_with fail
        go_at_call 29
        refine Calls.mono (cD _) ?_
        rintro e wx ⟨rfl, hwx⟩
        have hwy := hwx.symm
        clear hwx
        subst hwy
        go_wp2_with fail
        go_meet
        case rel => exact ⟨by rw [if_pos q5], rfl⟩
      case neg =>
        have q6 : ¬ (DA : Int) < (Q : Int) := by omega
        go_wp2_with fail
        go_meet
        case rel => exact ⟨by rw [if_neg q5], rfl⟩
    case rest =>
    obtain ⟨rfl, rfl⟩ := hcut
    generalize (if DA < Q then (digF d (DA + 1)).1 else (digF d i).1) = TO at *
    have f1 : (0 : Int) ≤ (Q : Int) + 1 := by omega
    have f2 : (Q : Int) + 1 ≤ (R : Int) := by omega
    have f3 : (R : Int) ≤ (d.size : Int) := by omega
    have f4 : ((Q : Int) + 1).toNat = Q + 1 := by omega
    have f5 : (0 : Int) ≤ (R : Int) := by omega
    have f6 : (0 : Int) ≤ (R : Int) + 1 := by omega
    have f7 : (R : Int) + 1 ≤ (E : Int) := by omega
    have f8 : (E : Int) ≤ (d.size : Int) := by omega
    have f9 : ((R : Int) + 1).toNat = R + 1 := by omega
    go_upto_if 61 with fail
    go_cut [12] from 16 to 94 (fun s12 wx => s12 = .string (gHd d Q R) ∧ wx = wc)
    case first =>
      cases hX : ((d.extract (Q + 1) R).toList == [46]) with
      | true =>
        go_wp2_with fail
        go_meet
        case rel => exact ⟨by unfold gHd; rw [hX]; rfl, rfl⟩
      | false =>
        go_wp2_with fail
        go_meet
        case rel => exact ⟨by unfold gHd; rw [hX]; rfl, rfl⟩
    case rest =>
    obtain ⟨rfl, rfl⟩ := hcut
    generalize hHD : gHd d Q R = HD at *
    go_upto_if 67 with fail
    go_cut [13] from 16 to 94 (fun s13 wx => s13 = .int .i64 (gSg d R E) ∧ wx = wc)
    case first =>
      cases hX : ((d.extract (R + 1) E).toList == [45]) with
      | true =>
        go_wp2_with fail
        go_meet
        case rel => exact ⟨by unfold gSg; rw [hX]; rfl, rfl⟩
      | false =>
        go_wp2_with fail
        go_at_call 29
        refine Calls.mono (cG _) ?_
        rintro e wx ⟨rfl, hwx⟩
        have hwy := hwx.symm
        clear hwx
        subst hwy
        go_wp2_with fail
        go_meet
        case rel => exact ⟨by unfold gSg; rw [hX]; rfl, rfl⟩
    case rest =>
    obtain ⟨rfl, rfl⟩ := hcut
    generalize gSg d R E = SG at *
    clear cD cG
    by_cases b1 : TO < (L.length : Int)
    case pos =>
      have hA3 : A = none := by rw [← hq]; simp [b1]
      subst hA3
      clear hq
      go_wp2_with fail
      go_ret2
      exact ⟨rfl, hb⟩
    by_cases b2 : 65536 ≤ TO
    case pos =>
      have hA3 : A = none := by rw [← hq]; simp [b2]
      subst hA3
      clear hq
      go_wp2_with fail
      go_ret2
      exact ⟨rfl, hb⟩
    obtain ⟨T0, rfl⟩ : ∃ T0 : Nat, TO = (T0 : Int) := ⟨TO.toNat, by omega⟩
    rw [if_neg (by omega), Int.toNat_natCast] at hq
    have hq2 : Hid (gsF d m (E + 1) (L ++ List.replicate (T0 + 1 - L.length) ⟨HD, SG⟩) = A) := hq
    clear hq
    have hHs := gHd_size d Q R
    rw [hHD] at hHs
    go_wp2_with fail
    go_loopg [4] (T0 + 1 - L.length) (fun gk v wr => ∃ (n : Nat) (ua : Option Addr) (uc : Nat), n + gk = T0 + 1 - L.length ∧ v = .slice ua (L.length + n) uc ∧ Hid (wr.ownsRow w.heap.size 34 2 (.slice ua (L.length + n) uc) (L.length + n) (cellsF En.cs (L ++ List.replicate n ⟨HD, SG⟩))) ∧ Hid (Below w.heap.size w wr))
    case atStart => exact ⟨0, va, vc, by omega, rfl, (by show World.ownsRow _ _ _ _ _ _ _; simpa using ho), hb⟩
    case round =>
      clear ho hb hF
      obtain ⟨n, ua, uc, hn, rfl, ho', hb'⟩ := hrel
      have ho := ho'.out
      have hb := hb'.out
      clear ho' hb'
      by_cases hgk : L.length + n ≤ T0
      case neg =>
        have e1 : ¬ ((L.length + n : Nat) : Int) ≤ (T0 : Int) := by omega
        have e2 : ¬ (L.length : Int) + (n : Int) ≤ (T0 : Int) := by omega
        obtain rfl : n = T0 + 1 - L.length := by omega
        have hll : (L ++ List.replicate (T0 + 1 - L.length) (⟨HD, SG⟩ : En)).length = L.length + (T0 + 1 - L.length) := by simp
        have hh2 : Hid (∀ e ∈ L ++ List.replicate (T0 + 1 - L.length) (⟨HD, SG⟩ : En), e.heads.size ≤ d.size) := by
          intro e he
          rcases List.mem_append.1 he with h | h
          · exact hh.out e h
          · rw [(List.mem_replicate.1 h).2]; exact hHs
        have ho2 : Hid (wr.ownsRow w.heap.size 34 2 (.slice ua (L.length + (T0 + 1 - L.length)) uc) (L ++ List.replicate (T0 + 1 - L.length) (⟨HD, SG⟩ : En)).length (cellsF En.cs (L ++ List.replicate (T0 + 1 - L.length) ⟨HD, SG⟩))) := by show World.ownsRow _ _ _ _ _ _ _; rw [hll]; exact ho
        go_wp2_with fail
        go_roundw
        case rel => exact ⟨L ++ List.replicate (T0 + 1 - L.length) ⟨HD, SG⟩, E + 1, m, by omega, by omega, by rw [hll]; omega, by go_num, hh2, hq2, ho2, hb⟩
        case measure => simp [intOf]; omega
      case pos =>
        have e1 : ((L.length + n : Nat) : Int) ≤ (T0 : Int) := by omega
        have e2 : (L.length : Int) + (n : Int) ≤ (T0 : Int) := by omega
        have hbC : Below w.heap.size w (wr.alloc (.cells #[.string HD, .int .i64 SG] 34)) := hb.alloc hb.size _
        have oC := ho.alloc (.cells #[.string HD, .int .i64 SG] 34)
        go_wp2_with (at_builtin; (refine wpList_append_mine _ rfl _ _ 28 rfl w.heap.size 34 ti' _ 2 24 Tryd.underlying28 hj hj0 hj1 hj2 rfl (by decide) (.slice ua (L.length + n) uc) (L.length + n) (cellsF En.cs (L ++ List.replicate n ⟨HD, SG⟩)) rfl oC ⟨wr.heap.size, 0, none⟩ 1 1 [.string HD, .int .i64 SG] rfl rfl (fun j u hj => by rw [Go.WideShapes.add_plain, Nat.zero_add, (Has.new wr #[.string HD, .int .i64 SG] 34 rfl).2.1 j]; simpa using hj) (by intro u hu; simp at hu; rcases hu with rfl | rfl <;> rfl) (by decide) (by unfold maxLen; omega) (by omega) (by have := hb.size; simp; omega) ?_); intro g' c' y o3 gr dj _ hc'; have b3 := grown_bel hbC gr (Nat.le_refl _) (fun q hq => (own_lt oC q hq).1))
        go_roundg (T0 + 1 - L.length - (n + 1))
        case measure => omega
        case rel => exact ⟨n + 1, _, _, by omega, rfl, (by show World.ownsRow _ _ _ _ _ _ _; rw [show L ++ List.replicate (n + 1) (⟨HD, SG⟩ : En) = L ++ List.replicate n ⟨HD, SG⟩ ++ [⟨HD, SG⟩] by rw [List.replicate_succ', List.append_assoc], cellsF_append]; exact o3), b3⟩
end Go.Proofs.YtcajejfddfiidaaDoor
