import Derived.Test.YtbgfeogigjjmdaaRhC
import Derived.Laws.BytesArg
namespace Go.Proofs.Ytbgfeogigjjmdaa
open Go.RowKit
set_option linter.unusedVariables false

set_option maxRecDepth 100000 in
set_option maxHeartbeats 1000000 in
theorem refToHex_big (D : List Nat) (a : Option Addr) (cap : Nat) (w : World) (h : 1048576 < D.length) :
    Calls Try.prog 9 #[.slice a D.length cap] w fun e w' => e = .returned (.tuple #[.string ⟨#[]⟩, .int .i64 100]) ∧ w = w' := by
  have h1 : (1048576 : Int) < (D.length : Int) := by omega
  go_enter Try.func9, Try.ntmps9
  go_wp2
  go_ret2
  exact ⟨rfl, rfl⟩

set_option maxRecDepth 100000 in
set_option maxHeartbeats 8000000 in
theorem refToHex_ok (D : List Nat) (a : Option Addr) (cap : Nat) (w : World) (hD : Bs w a D) (hc : D.length ≤ cap) (hcm : cap ≤ 9223372036854775807) (hm : D.length ≤ 1048576) :
    Calls Try.prog 9 #[.slice a D.length cap] w fun e w' => e = .returned (.tuple #[.string (ba (hexT D)), .int .i64 0]) ∧ Below w.heap.size w w' := by
  have h1 : ¬ (1048576 : Int) < (D.length : Int) := by omega
  have hD' : Hid (Bs w a D) := hD
  clear hD
  obtain ⟨T0, hT0⟩ : ∃ T0, ba (hexT D) = T0 := ⟨_, rfl⟩
  rw [hT0]
  have hT1 : Hid (bs ((hexT D).map UInt8.ofNat) = T0) := hT0
  clear hT0
  go_enter Try.func9, Try.ntmps9
  go_wp2
  go_loopg [4, 5, 6] ((D.length + 15) / 16) (fun gk u i en wr => ∃ (k : Nat), k + gk = (D.length + 15) / 16 ∧ i = .int .i64 ((16 * k : Nat) : Int) ∧ Hid (wr.ownsRow w.heap.size 5 1 u (hexK D k).length (v8 (hexK D k))) ∧ Hid (Below w.heap.size w wr))
  case atStart => exact ⟨0, by omega, rfl, World.ownsRow_nil _ _ _ _, Below.refl _ _⟩
  case round =>
    obtain ⟨k, hk, rfl, hOw, hBe⟩ := hrel
    by_cases hlt : 16 * k < D.length
    · obtain ⟨d, o, rfl, hd, hcl⟩ := hD'.out.cell (by omega)
      have hk0 : (0 : Int) ≤ ((16 * k : Nat) : Int) := by omega
      have hk1 : ((16 * k : Nat) : Int) < (D.length : Int) := by omega
      generalize hAt : 16 * k = at0 at *
      have hws := hBe.out.size
      have hXl := hexK_len D k
      have hp256 : ∀ x ∈ pcs D k, x < 256 := fun x hx => hD'.out.1 x (List.mem_of_mem_drop (List.mem_of_mem_take hx))
      have hp0 : 0 < (pcs D k).length := by rw [pcs_len]; omega
      have hp1 : (pcs D k).length ≤ 255 := by rw [pcs_len]; omega
      have hpc : Hid (∀ WX : World, Below w.heap.size w WX → ∀ i, i < (pcs D k).length → WX.cell? ⟨d, o + at0 + i, none⟩ = some (.int .u8 (((pcs D k).getD i 0 : Nat) : Int))) := by
        intro WX hE0 i hi
        rw [pcs_len] at hi
        rw [Nat.add_assoc]
        refine ((hE0.cell (p := ⟨d, o + (at0 + i), none⟩) hd).trans (hcl (at0 + i) (by omega))).trans ?_
        rw [← hAt]
        simp [pcs, List.getD_eq_getElem?_getD, show i < 16 by omega]
      have hR : Hid (∀ (X0 : List Nat) (v0 : Value) (WX : World), WX.ownsRow w.heap.size 5 1 v0 X0.length (v8 X0) → Below w.heap.size w WX → X0.length ≤ 100000000 → Calls Try.prog 14 #[v0, .int .i64 0, .int .i64 ((at0 : Int) % 65536), .slice (some ⟨d, o + at0, none⟩) (pcs D k).length (cap - at0)] WX fun e w' => ∃ v', e = .returned v' ∧ w'.ownsRow w.heap.size 5 1 v' (X0 ++ recT 0 (at0 % 65536) (pcs D k)).length (v8 (X0 ++ recT 0 (at0 % 65536) (pcs D k))) ∧ Below w.heap.size WX w') := by
        intro X0 v0 WX hO hE hx
        have := record_any w.heap.size X0 v0 0 (at0 % 65536) (pcs D k) d (o + at0) (cap - at0) WX hO hE.size hp256 hp0 hp1 (Nat.lt_of_lt_of_le hd hE.size) (hpc.out WX hE) (by decide) (by omega) (by omega)
        rwa [show ((at0 % 65536 : Nat) : Int) = (at0 : Int) % 65536 by simp] at this
      clear hpc hcl hp256 hp0 hp1
      by_cases hc16 : D.length < at0 + 16
      · by_cases hb : 0 < at0 ∧ at0 % 65536 = 0
        · obtain ⟨hba, hbb⟩ := hb
          have hb1 : (0 : Int) < (at0 : Int) := by omega
          have hb2 : (((at0 : Int) % 65536) == 0) = true := by simp; omega
          have hbk : Hid (hexK D (k + 1) = (hexK D k ++ recT 4 0 [at0 / 65536 / 256 % 256, at0 / 65536 % 256]) ++ recT 0 (at0 % 65536) (pcs D k)) := by
            show _ = _
            simp only [hexK, lineK, bankK]
            rw [hAt, if_pos (by omega), List.append_assoc]
          have hL2 : ∀ x ∈ [at0 / 65536 / 256 % 256, at0 / 65536 % 256], x < 256 := by
            intro x hx
            simp only [List.mem_cons, List.not_mem_nil, or_false] at hx
            omega
          have hv : (v8 [at0 / 65536 / 256 % 256, at0 / 65536 % 256]).toArray = #[.int .u8 ((at0 : Int) / 65536 / 256), .int .u8 ((at0 : Int) / 65536 % 256)] := by
            have g1 : ((at0 / 65536 / 256 % 256 : Nat) : Int) = (at0 : Int) / 65536 / 256 := by omega
            have g2 : ((at0 / 65536 % 256 : Nat) : Int) = (at0 : Int) / 65536 % 256 := by omega
            rw [← g1, ← g2]; rfl
          have hNc : ∀ i, i < [at0 / 65536 / 256 % 256, at0 / 65536 % 256].length → (wr.alloc (.cells (v8 [at0 / 65536 / 256 % 256, at0 / 65536 % 256]).toArray 5)).cell? ⟨wr.heap.size, 0 + i, none⟩ = some (.int .u8 (([at0 / 65536 / 256 % 256, at0 / 65536 % 256].getD i 0 : Nat) : Int)) := fun i hi => by
            rw [Nat.zero_add, (Has.new wr _ 5 rfl).2.1 i, List.getElem?_toArray, v8_get _ i hi]
          have hwB := record_any w.heap.size (hexK D k) u4 4 0 [at0 / 65536 / 256 % 256, at0 / 65536 % 256] wr.heap.size 0 2 _ (hOw.out.alloc _) (by simp; omega) hL2 (by simp) (by simp) (by simp) hNc (by decide) (by decide) (by omega)
          have hE1 : Below w.heap.size w (wr.alloc (.cells (v8 [at0 / 65536 / 256 % 256, at0 / 65536 % 256]).toArray 5)) := hBe.out.alloc hBe.out.size _
          rw [hv] at hwB hE1
          rw [show [at0 / 65536 / 256 % 256, at0 / 65536 % 256].length = 2 from rfl] at hwB
          have hXl2 : (hexK D k ++ recT 4 0 [at0 / 65536 / 256 % 256, at0 / 65536 % 256]).length ≤ 60 * k + 16 := by
            rw [List.length_append, recT_len]; simp; omega
          generalize hexK D k ++ recT 4 0 [at0 / 65536 / 256 % 256, at0 / 65536 % 256] = X0 at hwB hbk hXl2
          clear hBe hOw hv hNc hL2
          go_upto_region 9 with (go_at_call 14; (with_reducible refine Calls.mono hwB ?_); rintro e WX ⟨v0, rfl, hX0, hE2⟩)
          have hE0 := hE1.trans hE2
          clear hwB hE1 hE2
          have hwR := hR.out X0 _ _ hX0 hE0 (by omega)
          have hct : (D.length : Int) < (at0 : Int) + 16 := by omega
          have hpl : (pcs D k).length = D.length - at0 := by rw [pcs_len]; omega
          rw [hpl] at hwR
          clear hR
          go_upto_region 12 with fail
          go_wp2_with (go_at_call 14; (with_reducible refine Calls.mono hwR ?_); rintro e w2 ⟨v2, rfl, hO2, hE2⟩)
          rw [← hbk.out] at hO2
          go_roundg ((D.length + 15) / 16 - (k + 1))
          case measure => go_light; omega
          case rel => exact ⟨k + 1, by omega, by rw [← hAt]; go_num, hO2, hE0.trans hE2⟩
        · by_cases hb0 : 0 < at0
          · have hb1 : (0 : Int) < (at0 : Int) := by omega
            have hb2 : (((at0 : Int) % 65536) == 0) = false := by simp; omega
            have hbk : Hid (hexK D (k + 1) = hexK D k ++ recT 0 (at0 % 65536) (pcs D k)) := by
              show _ = _
              simp only [hexK, lineK, bankK]
              rw [hAt, if_neg (by omega)]; rfl
            have hX0 := hOw.out
            have hE0 := hBe.out
            have hXl2 : (hexK D k).length ≤ 60 * k + 16 := by omega
            generalize hexK D k = X0 at hX0 hbk hXl hOw hXl2
            clear hOw hBe
            go_upto_region 9 with fail
            have hwR := hR.out X0 _ _ hX0 hE0 (by omega)
            have hct : (D.length : Int) < (at0 : Int) + 16 := by omega
            have hpl : (pcs D k).length = D.length - at0 := by rw [pcs_len]; omega
            rw [hpl] at hwR
            clear hR
            go_upto_region 12 with fail
            go_wp2_with (go_at_call 14; (with_reducible refine Calls.mono hwR ?_); rintro e w2 ⟨v2, rfl, hO2, hE2⟩)
            rw [← hbk.out] at hO2
            go_roundg ((D.length + 15) / 16 - (k + 1))
            case measure => go_light; omega
            case rel => exact ⟨k + 1, by omega, by rw [← hAt]; go_num, hO2, hE0.trans hE2⟩
          · have hb1 : ¬ (0 : Int) < (at0 : Int) := by omega
            have hbk : Hid (hexK D (k + 1) = hexK D k ++ recT 0 (at0 % 65536) (pcs D k)) := by
              show _ = _
              simp only [hexK, lineK, bankK]
              rw [hAt, if_neg (by omega)]; rfl
            have hX0 := hOw.out
            have hE0 := hBe.out
            have hXl2 : (hexK D k).length ≤ 60 * k + 16 := by omega
            generalize hexK D k = X0 at hX0 hbk hXl hOw hXl2
            clear hOw hBe
            go_upto_region 9 with fail
            have hwR := hR.out X0 _ _ hX0 hE0 (by omega)
            have hct : (D.length : Int) < (at0 : Int) + 16 := by omega
            have hpl : (pcs D k).length = D.length - at0 := by rw [pcs_len]; omega
            rw [hpl] at hwR
            clear hR
            go_upto_region 12 with fail
            go_wp2_with (go_at_call 14; (with_reducible refine Calls.mono hwR ?_); rintro e w2 ⟨v2, rfl, hO2, hE2⟩)
            rw [← hbk.out] at hO2
            go_roundg ((D.length + 15) / 16 - (k + 1))
            case measure => go_light; omega
            case rel => exact ⟨k + 1, by omega, by rw [← hAt]; go_num, hO2, hE0.trans hE2⟩
      · by_cases hb : 0 < at0 ∧ at0 % 65536 = 0
        · obtain ⟨hba, hbb⟩ := hb
          have hb1 : (0 : Int) < (at0 : Int) := by omega
          have hb2 : (((at0 : Int) % 65536) == 0) = true := by simp; omega
          have hbk : Hid (hexK D (k + 1) = (hexK D k ++ recT 4 0 [at0 / 65536 / 256 % 256, at0 / 65536 % 256]) ++ recT 0 (at0 % 65536) (pcs D k)) := by
            show _ = _
            simp only [hexK, lineK, bankK]
            rw [hAt, if_pos (by omega), List.append_assoc]
          have hL2 : ∀ x ∈ [at0 / 65536 / 256 % 256, at0 / 65536 % 256], x < 256 := by
            intro x hx
            simp only [List.mem_cons, List.not_mem_nil, or_false] at hx
            omega
          have hv : (v8 [at0 / 65536 / 256 % 256, at0 / 65536 % 256]).toArray = #[.int .u8 ((at0 : Int) / 65536 / 256), .int .u8 ((at0 : Int) / 65536 % 256)] := by
            have g1 : ((at0 / 65536 / 256 % 256 : Nat) : Int) = (at0 : Int) / 65536 / 256 := by omega
            have g2 : ((at0 / 65536 % 256 : Nat) : Int) = (at0 : Int) / 65536 % 256 := by omega
            rw [← g1, ← g2]; rfl
          have hNc : ∀ i, i < [at0 / 65536 / 256 % 256, at0 / 65536 % 256].length → (wr.alloc (.cells (v8 [at0 / 65536 / 256 % 256, at0 / 65536 % 256]).toArray 5)).cell? ⟨wr.heap.size, 0 + i, none⟩ = some (.int .u8 (([at0 / 65536 / 256 % 256, at0 / 65536 % 256].getD i 0 : Nat) : Int)) := fun i hi => by
            rw [Nat.zero_add, (Has.new wr _ 5 rfl).2.1 i, List.getElem?_toArray, v8_get _ i hi]
          have hwB := record_any w.heap.size (hexK D k) u4 4 0 [at0 / 65536 / 256 % 256, at0 / 65536 % 256] wr.heap.size 0 2 _ (hOw.out.alloc _) (by simp; omega) hL2 (by simp) (by simp) (by simp) hNc (by decide) (by decide) (by omega)
          have hE1 : Below w.heap.size w (wr.alloc (.cells (v8 [at0 / 65536 / 256 % 256, at0 / 65536 % 256]).toArray 5)) := hBe.out.alloc hBe.out.size _
          rw [hv] at hwB hE1
          rw [show [at0 / 65536 / 256 % 256, at0 / 65536 % 256].length = 2 from rfl] at hwB
          have hXl2 : (hexK D k ++ recT 4 0 [at0 / 65536 / 256 % 256, at0 / 65536 % 256]).length ≤ 60 * k + 16 := by
            rw [List.length_append, recT_len]; simp; omega
          generalize hexK D k ++ recT 4 0 [at0 / 65536 / 256 % 256, at0 / 65536 % 256] = X0 at hwB hbk hXl2
          clear hBe hOw hv hNc hL2
          go_upto_region 9 with (go_at_call 14; (with_reducible refine Calls.mono hwB ?_); rintro e WX ⟨v0, rfl, hX0, hE2⟩)
          have hE0 := hE1.trans hE2
          clear hwB hE1 hE2
          have hwR := hR.out X0 _ _ hX0 hE0 (by omega)
          have hct : ¬ (D.length : Int) < (at0 : Int) + 16 := by omega
          have hpl : (pcs D k).length = 16 := by rw [pcs_len]; omega
          have hct2 : (at0 : Int) + 16 ≤ (cap : Int) := by omega
          rw [hpl] at hwR
          clear hR
          go_upto_region 12 with fail
          go_wp2_with (go_at_call 14; (with_reducible refine Calls.mono hwR ?_); rintro e w2 ⟨v2, rfl, hO2, hE2⟩)
          rw [← hbk.out] at hO2
          go_roundg ((D.length + 15) / 16 - (k + 1))
          case measure => go_light; omega
          case rel => exact ⟨k + 1, by omega, by rw [← hAt]; go_num, hO2, hE0.trans hE2⟩
        · by_cases hb0 : 0 < at0
          · have hb1 : (0 : Int) < (at0 : Int) := by omega
            have hb2 : (((at0 : Int) % 65536) == 0) = false := by simp; omega
            have hbk : Hid (hexK D (k + 1) = hexK D k ++ recT 0 (at0 % 65536) (pcs D k)) := by
              show _ = _
              simp only [hexK, lineK, bankK]
              rw [hAt, if_neg (by omega)]; rfl
            have hX0 := hOw.out
            have hE0 := hBe.out
            have hXl2 : (hexK D k).length ≤ 60 * k + 16 := by omega
            generalize hexK D k = X0 at hX0 hbk hXl hOw hXl2
            clear hOw hBe
            go_upto_region 9 with fail
            have hwR := hR.out X0 _ _ hX0 hE0 (by omega)
            have hct : ¬ (D.length : Int) < (at0 : Int) + 16 := by omega
            have hpl : (pcs D k).length = 16 := by rw [pcs_len]; omega
            have hct2 : (at0 : Int) + 16 ≤ (cap : Int) := by omega
            rw [hpl] at hwR
            clear hR
            go_upto_region 12 with fail
            go_wp2_with (go_at_call 14; (with_reducible refine Calls.mono hwR ?_); rintro e w2 ⟨v2, rfl, hO2, hE2⟩)
            rw [← hbk.out] at hO2
            go_roundg ((D.length + 15) / 16 - (k + 1))
            case measure => go_light; omega
            case rel => exact ⟨k + 1, by omega, by rw [← hAt]; go_num, hO2, hE0.trans hE2⟩
          · have hb1 : ¬ (0 : Int) < (at0 : Int) := by omega
            have hbk : Hid (hexK D (k + 1) = hexK D k ++ recT 0 (at0 % 65536) (pcs D k)) := by
              show _ = _
              simp only [hexK, lineK, bankK]
              rw [hAt, if_neg (by omega)]; rfl
            have hX0 := hOw.out
            have hE0 := hBe.out
            have hXl2 : (hexK D k).length ≤ 60 * k + 16 := by omega
            generalize hexK D k = X0 at hX0 hbk hXl hOw hXl2
            clear hOw hBe
            go_upto_region 9 with fail
            have hwR := hR.out X0 _ _ hX0 hE0 (by omega)
            have hct : ¬ (D.length : Int) < (at0 : Int) + 16 := by omega
            have hpl : (pcs D k).length = 16 := by rw [pcs_len]; omega
            have hct2 : (at0 : Int) + 16 ≤ (cap : Int) := by omega
            rw [hpl] at hwR
            clear hR
            go_upto_region 12 with fail
            go_wp2_with (go_at_call 14; (with_reducible refine Calls.mono hwR ?_); rintro e w2 ⟨v2, rfl, hO2, hE2⟩)
            rw [← hbk.out] at hO2
            go_roundg ((D.length + 15) / 16 - (k + 1))
            case measure => go_light; omega
            case rel => exact ⟨k + 1, by omega, by rw [← hAt]; go_num, hO2, hE0.trans hE2⟩
    · obtain rfl : k = (D.length + 15) / 16 := by omega
      have hk1 : ¬ ((16 * ((D.length + 15) / 16) : Nat) : Int) < (D.length : Int) := by omega
      have hXl := hexK_len D ((D.length + 15) / 16)
      have hws := hBe.out.size
      have hwE := record_nil w.heap.size _ u4 1 0 wr hOw.out hws (by decide) (by decide) (by omega)
      have hlt2 := hexT_lt D hD'.out.1
      have hTx : Hid (hexK D ((D.length + 15) / 16) ++ recT 1 0 [] = hexT D) := rfl
      rw [hTx.out] at hwE
      have hne : 0 < (hexT D).length := by
        unfold hexT
        rw [List.length_append, recT_len]; omega
      have hsN := strN (hexT D)
      rw [hT1.out] at hsN
      generalize 16 * ((D.length + 15) / 16) = at0 at *
      have hBe' := hBe.out
      generalize hexT D = X at *
      clear hOw hXl hTx hBe hD' hT1
      go_upto_region 14 with (go_at_call 14; (with_reducible refine Calls.mono hwE ?_); rintro e w2 ⟨v2, rfl, hO2, hE2⟩)
      obtain ⟨g, c, rfl, hc1, hcl⟩ := own_open (Y := []) (by rw [List.append_nil]; exact hO2) hne
      have hcv := run_convert_bytes_arg (P := Try.prog) w2 22 5 Try.underlying22 u5 g 0 X.length c (X.map fun (x : Nat) => (x : Int)) (by simp) hcl 9 Try.underlying9
      rw [hsN] at hcv
      rw [List.length_nil, Nat.add_zero] at hc1 ⊢
      clear hcl hsN hwE hO2
      generalize X.length = M at *
      generalize (X.map fun (x : Nat) => (x : Int)) = xs at *
      go_wp2
      go_ret2
      exact ⟨rfl, hBe'.trans hE2⟩
end Go.Proofs.Ytbgfeogigjjmdaa
