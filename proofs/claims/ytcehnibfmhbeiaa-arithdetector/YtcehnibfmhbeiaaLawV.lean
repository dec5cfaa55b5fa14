import Derived.Test.YtcehnibfmhbeiaaLawW
namespace Go.Proofs.Ytcehnibfmhbeiaa
open Go.RowKit
set_option linter.unusedVariables false

set_option maxRecDepth 100000 in
set_option maxHeartbeats 2000000 in
theorem law_main0 (B : Nat → Bool) (ac : Option Addr) (b off n cap cc D Hd : Nat) (latch : Bool) (w : World) (hn : n < 2147483647) (hn0 : n ≤ cap) (hDb : D ≤ 9223372036854775807) (hHb : Hd ≤ 9223372036854775807)
    (hb : b < w.heap.size)
    (hc : ∀ i, i < n → w.cell? ⟨b, off + i, none⟩ = some (.bool (B i))) :
    Calls Try.prog 3 #[.int .i64 D, .int .i64 Hd, .bool latch, .slice (some ⟨b, off, none⟩) n cap, .slice ac 0 cc] w
      fun e w' => e = .returned (.bool true) ∧ Below w.heap.size w w' := by
  go_enter Try.func3, Try.ntmps3
  go_wp2
  go_loopg [13, 14] n (fun gk kept kk wr => Inv B D Hd n latch w gk kept kk wr)
  case atStart => exact ⟨0, 0, false, false, by omega, rfl, rfl, ((Below.refl _ _).alloc (Nat.le_refl _) _).alloc (by simp) _, (Has.new _ _ _ rfl).alloc _, Has.new _ _ _ (by simp), LeftIs.zero _ _ _, by omega⟩
  case round =>
    obtain ⟨k, L, on, kp, hk, rfl, rfl, hB, hD, hS, hL, hLb⟩ := hrel
    by_cases hkn : k < n
    · have hSe := fun w => sense_at B D Hd k L ByteArray.empty latch on kp w (by omega) hLb
      have hk0 : (0 : Int) ≤ (k : Int) := by omega
      have hk1 : (k : Int) < (n : Int) := by omega
      have hbit : wr.cell? ⟨b, off + k, none⟩ = some (.bool (B k)) := (hB.cell (p := ⟨b, off + k, none⟩) hb).trans (hc k hkn)
      generalize hRv : ((rl B (k + 1) : Nat) : Int) = Rv at hSe
      generalize hLv : (if act B D k then tickF Hd else if 0 < L then L - 1 else 0) = Lv at hSe
      generalize hOv : (act B D k || decide (0 < L)) = Ov at hSe
      generalize hKv : (latch && (kp || act B D k)) = Kv at hSe
      obtain ⟨d1, D1, d2⟩ := id hD
      obtain ⟨s1, S1, s2⟩ := id hS
      generalize hRk : ((rl B k : Nat) : Int) = Rk at *
      go_upto_region 9 with fail
      go_cut [14] from 32 to 104 (fun s14 wx => s14 = .int .i64 k ∧ Below w.heap.size w wx ∧ Has wx w.heap.size #[.string ByteArray.empty, .bool latch, .int .i64 D, .int .i64 Hd] ∧ Has wx (w.heap.size + 1) #[.int .i32 Rv, .int .i32 Lv, .bool Ov, .bool Kv])
      case first =>
        go_region_with (go_at_call 4; refine (hSe _).mono ?_; rintro e w1 ⟨rfl, hb1⟩; have S5 := hS.drew.below hb1; obtain ⟨s5, S5', s6⟩ := id S5; have D5 := hD.drew.below hb1; have B5 := bel_after hB.drew (by have := hB.size; simpa using this) hb1)
        all_goals
          go_wp2_with fail
          go_meet
          case rel => exact ⟨rfl, (((B5.setCell (by simp) _).setCell (by simp) _).setCell (by simp) _).setCell (by simp) _, (((D5.far (by omega) _).far (by omega) _).far (by omega) _).far (by omega) _, S5.set4 _ _ _ _⟩
      case rest =>
        obtain ⟨rfl, hB', hD', hS'⟩ := hcut
        clear hbit D1 d1 d2 S1 s1 s2 hD hS hB hSe
        obtain ⟨d1, D1, d2⟩ := id hD'
        obtain ⟨s1, S1, s2⟩ := id hS'
        have hcw : ∀ i, i < n → wc.cell? ⟨b, off + i, none⟩ = some (.bool (B i)) := fun i hi => (hB'.cell (p := ⟨b, off + i, none⟩) hb).trans (hc i hi)
        have hac := fun (p : Nat) (hp : p < n) => active_any B b off n cap p D wc hn hp hDb hcw
        have hKh : Hid ((latch && (kp || act B D k)) = Kv) := hKv
        have hOh : Hid ((act B D k || decide (0 < L)) = Ov) := hOv
        have hLh : Hid ((if act B D k then tickF Hd else if 0 < L then L - 1 else 0) = Lv) := hLv
        have hRh : Hid (((rl B (k + 1) : Nat) : Int) = Rv) := hRv
        clear hKv hOv hLv hRv hcw
        go_wp2_with fail
        go_loop [15, 16] (fun o j => ∃ (q : Nat) (J : Int), q ≤ k + 1 ∧ k ≤ q + Hd ∧ J = (q : Int) - 1 ∧ j = .int .i64 J ∧ o = .bool (any B D k (k + 1 - q))) (fun _ j => (intOf j + 1).toNat)
        case atStart => exact ⟨k + 1, k, by omega, by omega, by omega, rfl, by rw [Nat.sub_self]; rfl⟩
        case round =>
          obtain ⟨q, J, hq1, hq2, hJ, rfl, rfl⟩ := hrel
          by_cases hgo : 1 ≤ q ∧ k + 1 ≤ q + Hd
          · obtain ⟨p, rfl⟩ : ∃ p, q = p + 1 := ⟨q - 1, by omega⟩
            obtain rfl : J = (p : Int) := by omega
            have hstep : Hid (any B D k (k + 1 - p) = (any B D k (k + 1 - (p + 1)) || act B D p)) := by
              show _ = _
              rw [show k + 1 - p = (k - p) + 1 by omega, show k + 1 - (p + 1) = k - p by omega]
              simp only [any]
              rw [show k - (k - p) = p by omega]
            have hpc := hac p (by omega)
            have hp0 : (0 : Int) ≤ (p : Int) := by omega
            have hp1 : (k : Int) - (Hd : Int) ≤ (p : Int) := by omega
            clear hgo hJ
            generalize hAn : any B D k (k + 1 - (p + 1)) = An at *
            cases An
            all_goals
              go_wp2_with (go_at_call 5; refine hpc.mono ?_; rintro e w' ⟨rfl, rfl⟩)
              go_round
              case rel => exact ⟨p, p - 1, by omega, by omega, by omega, by go_num, by rw [hstep.out]; rfl⟩
              case measure => (simp [intOf] <;> omega)
          · have hon : any B D k (k + 1 - q) = Ov := by
              rw [← hOh.out]
              refine (on_iff hL Hd (k + 1 - q) (fun i => by omega) (fun i hi => ?_)).symm
              unfold tickF; rw [if_neg (by omega)]; split <;> omega
            rw [hon]
            have hend : J = -1 ∨ (0 ≤ J ∧ J < (k : Int) - (Hd : Int)) := by omega
            clear hon hJ hgo hq1 hq2
            rcases hend with rfl | ⟨hJ0, hJ2⟩
            all_goals
              go_upto_region 15 with fail
              have hak := hac k hkn
              clear hac
              go_cut [13] from 32 to 104 (fun s13 wx => s13 = .bool Kv ∧ wx = wc)
              case first =>
                have hKo := hKh.out
                clear hKh hOh hLh hRh
                generalize hAk : act B D k = ak at *
                clear hAk
                cases latch <;> cases kp <;> cases ak
                all_goals
                  subst hKo
                  go_wp2_with (go_at_call 5; refine hak.mono ?_; rintro e w' ⟨rfl, hwe⟩; subst hwe)
                  go_meet
                  case rel => exact ⟨rfl, rfl⟩
              case rest =>
                obtain ⟨rfl, rfl⟩ := hcut
                have hlk : (latch && Kv) = Kv := by rw [← hKh.out]; cases latch <;> simp
                clear hak
                have hLs : Hid (LeftIs B D (tickF Hd) (k + 1) Lv) := by show LeftIs _ _ _ _ _; rw [← hLh.out]; exact hL.step (tickF_bd _).1
                have hLl : Lv ≤ 2147483647 := by rw [← hLh.out]; have := (tickF_bd Hd).2; split <;> (try split) <;> omega
                clear hL hLh hKh hOh
                have hfin : ∀ (kq : Bool) (wf : World), Below w.heap.size w wf → Has wf w.heap.size #[.string ByteArray.empty, .bool latch, .int .i64 D, .int .i64 Hd] → Has wf (w.heap.size + 1) #[.int .i32 Rv, .int .i32 Lv, .bool Ov, .bool kq] → Inv B D Hd n latch w (gk - 1) (.bool kq) (.int .i64 ((k : Int) + 1)) wf := by
                  intro kq wf h1 h2 h3
                  rw [← hRh.out] at h3
                  exact ⟨k + 1, Lv, Ov, kq, by omega, by push_cast; rfl, rfl, h1, h2, h3, hLs.out, hLl⟩
                clear hLs hRh
                cases Ov
                all_goals
                  · have hkl1 : ¬ (k : Int) < 0 := by omega
                    go_wp2_with (go_at_call 6; refine (says_any _ _ _ _ _ _ _ _ _).mono ?_; rintro e w5 ⟨rfl, hb5⟩; have D5 := hD'.below hb5; have S5 := hS'.below hb5; have B5 := bel_after hB' hB'.size hb5)
                    go_roundg (gk - 1)
                    case measure => go_light; omega
                    case rel => exact hfin _ _ B5 D5 S5
    · have hkn1 : ¬ (k : Int) < (n : Int) := by omega
      go_wp2
      go_ret
      exact ⟨rfl, hB⟩

set_option maxRecDepth 100000 in
set_option maxHeartbeats 1000000 in
theorem law_empty (ab ac : Option Addr) (cb lc cc D Hd : Nat) (latch : Bool) (w : World) :
    Calls Try.prog 3 #[.int .i64 D, .int .i64 Hd, .bool latch, .slice ab 0 cb, .slice ac lc cc] w
      fun e w' => e = .returned (.bool true) ∧ Below w.heap.size w w' := by
  go_enter Try.func3, Try.ntmps3
  go_wp2
  go_loopg [13, 14] 0 (fun gk kept kk wr => kk = .int .i64 0 ∧ Below w.heap.size w wr)
  case atStart => exact ⟨rfl, ((Below.refl _ _).alloc (Nat.le_refl _) _).alloc (by simp) _⟩
  case round =>
    obtain ⟨rfl, hB⟩ := hrel
    go_wp2
    go_ret
    exact ⟨rfl, hB⟩

set_option maxRecDepth 100000 in
set_option maxHeartbeats 1000000 in
theorem law_out (ab ac : Option Addr) (n cb lc cc : Nat) (delay hold : Int) (latch : Bool) (w : World) (hn : n ≤ 9223372036854775807) (h : delay < 0 ∨ hold < 0 ∨ 2147483647 ≤ n) :
    Calls Try.prog 3 #[.int .i64 delay, .int .i64 hold, .bool latch, .slice ab n cb, .slice ac lc cc] w
      fun e w' => e = .returned (.bool true) ∧ Below w.heap.size w w' := by
  by_cases h1 : delay < 0
  · go_enter Try.func3, Try.ntmps3
    go_wp2
    go_ret
    exact ⟨rfl, Below.refl _ _⟩
  · by_cases h2 : hold < 0
    · go_enter Try.func3, Try.ntmps3
      go_wp2
      go_ret
      exact ⟨rfl, Below.refl _ _⟩
    · have h3 : (2147483647 : Int) ≤ (n : Int) := by omega
      go_enter Try.func3, Try.ntmps3
      go_wp2
      go_ret
      exact ⟨rfl, Below.refl _ _⟩
end Go.Proofs.Ytcehnibfmhbeiaa
