import Derived.Test.YtddphepgcihdbaaGreatTdD
import Derived.Test.YtddphepgcihdbaaGreatTdF
namespace Go.Proofs.YtddphepgcihdbaaGreat
open Go.RowKit
set_option linter.unusedVariables false
set_option linter.unusedSimpArgs false

set_option maxRecDepth 100000 in
set_option maxHeartbeats 4000000 in
theorem refLocal_any (m : Int) (m0 : 0 ≤ m) (m1 : m ≤ 210379679) (t : Tt) (aD aS aX aH : Option Addr) (cD cS cX cH : Nat) (w : World) (hR : TR w t (.slice aD t.D.length cD) (.slice aS t.S.length cS) (.slice aX t.X.length cX) (.slice aH t.H.length cH)) (p0 : -720 ≤ plG m t.H) (p1 : plG m t.H ≤ 840) : Calls Tryz.prog 29 #[.agg #[.string t.nm, .slice aD t.D.length cD, .int .i64 t.w0, .int .i64 t.w1, .int .i64 t.w2, .int .i64 t.w3, .int .i64 t.w4, .int .i64 t.w5, .int .i64 t.w6, .slice aS t.S.length cS, .slice aX t.X.length cX, .slice aH t.H.length cH], .int .i64 m] w fun e w' => e = .returned (.int .i64 (loF m (plG m t.H))) ∧ Below w.heap.size w w' := by
  have hE : Hid (loF m (plG m t.H) = if m + plG m t.H < 0 then 0 else if 210379679 < m + plG m t.H then 210379679 else m + plG m t.H) := by show _ = _; unfold loF; split <;> (try split) <;> omega
  have hfin : Hid (plG m (t.H.take t.H.length) = plG m t.H) := pl_end m t.H
  have hpb : Hid (-720 ≤ plG m t.H ∧ plG m t.H ≤ 840) := ⟨p0, p1⟩
  generalize loF m (plG m t.H) = R at *
  clear p0 p1
  have dl := hR.dl
  have sl := hR.sl
  have xl := hR.xl
  have hl := hR.hl
  go_enter Tryz.func29, Tryz.ntmps29
  go_wp2
  have HY : Has (w.alloc (.cells #[.string t.nm, .slice aD t.D.length cD, .int .i64 t.w0, .int .i64 t.w1, .int .i64 t.w2, .int .i64 t.w3, .int .i64 t.w4, .int .i64 t.w5, .int .i64 t.w6, .slice aS t.S.length cS, .slice aX t.X.length cX, .slice aH t.H.length cH] 28)) w.heap.size #[.string t.nm, .slice aD t.D.length cD, .int .i64 t.w0, .int .i64 t.w1, .int .i64 t.w2, .int .i64 t.w3, .int .i64 t.w4, .int .i64 t.w5, .int .i64 t.w6, .slice aS t.S.length cS, .slice aX t.X.length cX, .slice aH t.H.length cH] := Has.new _ _ _ rfl
  have HB : Below w.heap.size w (w.alloc (.cells #[.string t.nm, .slice aD t.D.length cD, .int .i64 t.w0, .int .i64 t.w1, .int .i64 t.w2, .int .i64 t.w3, .int .i64 t.w4, .int .i64 t.w5, .int .i64 t.w6, .slice aS t.S.length cS, .slice aX t.X.length cX, .slice aH t.H.length cH] 28)) := bel1
  have hRR : Hid (TR (w.alloc (.cells #[.string t.nm, .slice aD t.D.length cD, .int .i64 t.w0, .int .i64 t.w1, .int .i64 t.w2, .int .i64 t.w3, .int .i64 t.w4, .int .i64 t.w5, .int .i64 t.w6, .slice aS t.S.length cS, .slice aX t.X.length cX, .slice aH t.H.length cH] 28)) t (.slice aD t.D.length cD) (.slice aS t.S.length cS) (.slice aX t.X.length cX) (.slice aH t.H.length cH)) := hR.below HB
  generalize (w.alloc (.cells #[.string t.nm, .slice aD t.D.length cD, .int .i64 t.w0, .int .i64 t.w1, .int .i64 t.w2, .int .i64 t.w3, .int .i64 t.w4, .int .i64 t.w5, .int .i64 t.w6, .slice aS t.S.length cS, .slice aX t.X.length cX, .slice aH t.H.length cH] 28)) = Y at *
  clear hR
  go_loopg [5, 6] t.H.length (fun gk s5 s6 wr => ∃ (k : Nat) (p : Int), k + gk = t.H.length ∧ s6 = .int .i64 (k : Int) ∧ s5 = .int .i64 p ∧ Hid (p = plG m (t.H.take k)) ∧ Y = wr)
  case atStart => exact ⟨0, _, by omega, rfl, rfl, rfl, rfl⟩
  case round =>
    obtain ⟨k, p, hk, rfl, rfl, hA, rfl⟩ := hrel
    obtain ⟨_, q, _⟩ := id HY
    have hb := Below.refl Y.heap.size Y
    by_cases hlt : k < t.H.length
    · have hs := pl_step m t.H k hlt
      have hE2 : Hid (plG m (t.H.take (k + 1)) = if t.H[k].m ≤ m then t.H[k].plus else p) := by show _ = _; rw [hs, hA.out]
      clear hs hA
      obtain ⟨g, o, rfl, hg, P⟩ := (hRR.out.h.ln).resolve_left (by intro e; rw [e] at hlt; simp at hlt)
      have p0 := (hb.cell (p := ⟨g, _, none⟩) hg).trans (P k hlt 0 _ rfl)
      have p1 := (hb.cell (p := ⟨g, _, none⟩) hg).trans (P k hlt 1 _ rfl)
      simp only [Nat.add_zero] at p0
      have t1 : (k : Int) < (t.H.length : Int) := by omega
      have t0 : (0 : Int) ≤ (k : Int) := by omega
      clear P
      generalize t.H[k].m = y0 at *
      generalize t.H[k].plus = y1 at *
      by_cases hc : y0 ≤ m
      · have hE3 : Hid (y1 = plG m (t.H.take (k + 1))) := by show _ = _; rw [hE2.out, if_pos hc]
        clear hE2
        go_wp2
        go_roundg (gk - 1)
        case measure => go_light; omega
        case rel => exact ⟨k + 1, _, by omega, by go_num, rfl, hE3, rfl⟩
      · have hE3 : Hid (p = plG m (t.H.take (k + 1))) := by show _ = _; rw [hE2.out, if_neg hc]
        clear hE2
        go_wp2
        go_roundg (gk - 1)
        case measure => go_light; omega
        case rel => exact ⟨k + 1, _, by omega, by go_num, rfl, hE3, rfl⟩
    · obtain rfl : k = t.H.length := by omega
      have t1 : ¬ (t.H.length : Int) < (t.H.length : Int) := by omega
      have hpe : Hid (p = plG m t.H) := by show _ = _; rw [hA.out, hfin.out]
      have q1 : -720 ≤ p := by rw [hpe.out]; exact hpb.out.1
      have q2 : p ≤ 840 := by rw [hpe.out]; exact hpb.out.2
      have hE2 : Hid (R = if m + p < 0 then 0 else if 210379679 < m + p then 210379679 else m + p) := by show _ = _; rw [hpe.out]; exact hE.out
      clear hA hE
      by_cases a : m + p < 0
      · have hE3 : Hid (R = 0) := by show _ = _; rw [hE2.out, if_pos a]
        clear hE2
        go_wp2
        go_ret
        exact ⟨ret_int hE3.out.symm, HB⟩
      · by_cases bb : 210379679 < m + p
        · have hE3 : Hid (R = 210379679) := by show _ = _; rw [hE2.out, if_neg a, if_pos bb]
          clear hE2
          go_wp2
          go_ret
          exact ⟨ret_int hE3.out.symm, HB⟩
        · have hE3 : Hid (R = m + p) := by show _ = _; rw [hE2.out, if_neg a, if_neg bb]
          clear hE2
          go_wp2
          go_ret
          exact ⟨ret_int hE3.out.symm, HB⟩
end Go.Proofs.YtddphepgcihdbaaGreat
