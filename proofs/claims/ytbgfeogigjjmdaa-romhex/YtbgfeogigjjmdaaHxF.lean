import Derived.Test.YtbgfeogigjjmdaaHxE
import Derived.Laws.Cover1
namespace Go.Proofs.Ytbgfeogigjjmdaa
open Go.RowKit
set_option linter.unusedVariables false

/-- A piece of sixteen bytes. -/
def pcs (D : List Nat) (k : Nat) : List Nat := (D.drop (16 * k)).take 16
def bankK (k : Nat) : List Nat := if 0 < 16 * k / 65536 ∧ 16 * k % 65536 = 0 then recT 4 0 [16 * k / 65536 / 256 % 256, 16 * k / 65536 % 256] else []
def lineK (D : List Nat) (k : Nat) : List Nat := bankK k ++ recT 0 (16 * k % 65536) (pcs D k)
def hexK (D : List Nat) : Nat → List Nat
  | 0 => []
  | k + 1 => hexK D k ++ lineK D k
/-- The text of bytes as records. -/
def hexT (D : List Nat) : List Nat := hexK D ((D.length + 15) / 16) ++ recT 1 0 []
theorem pcs_len (D : List Nat) (k : Nat) : (pcs D k).length = min 16 (D.length - 16 * k) := by simp [pcs]
theorem hexK_len (D : List Nat) : ∀ k, (hexK D k).length ≤ 60 * k
  | 0 => by simp [hexK]
  | k + 1 => by
    have h := hexK_len D k
    have h2 := pcs_len D k
    simp only [hexK, lineK, List.length_append, recT_len]
    have h3 : (bankK k).length ≤ 16 := by
      unfold bankK
      split
      · rw [recT_len]; simp
      · simp
    omega
theorem apart_old {B b d : Nat} {X : List Nat} {w : World} (h : Bd B b X w) (hd : d < B) : Apart b d w := by
  have key : ∀ q, Lib.BuilderAt 52 5 B b q (v8 X) w → Apart b d w := by
    rintro q ⟨h1, u, hu, hown, _⟩
    refine ⟨by omega, by have := h.2; omega, fun p v fr hb hg => ?_⟩
    rw [hu] at hb
    rw [← cells_inj hb] at hg
    have := (own_lt hown d hg).1
    omega
  rcases h.1 with h | h
  · exact key _ h
  · exact key _ h
theorem Bd.new (w : World) : Bd w.heap.size w.heap.size [] (w.alloc (.cells #[.pointer none, .slice none 0 0] 52)) := by
  refine ⟨.inl ⟨Nat.le_refl _, .slice none 0 0, heap_alloc_new w _, World.ownsRow_nil _ _ _ _, by intro h; cases h⟩, by simp⟩
theorem byteCells_v8 (X : List Nat) (h : ∀ x ∈ X, x < 256) : v8 X = Lib.byteCells (X.map UInt8.ofNat) := by
  unfold v8 Lib.byteCells
  rw [List.map_map]
  apply List.map_congr_left
  intro x hx
  have := h x hx
  simp [UInt8.toNat_ofNat_of_lt' (show x < UInt8.size by simpa using this)]
/-- A list of bytes as a string. -/
def ba (X : List Nat) : ByteArray := ⟨(X.map UInt8.ofNat).toArray⟩
theorem ba_nl (X : List Nat) (h : ∀ x ∈ X, x < 256) : nl (ba X) = X := by
  unfold nl ba
  simp only [List.map_map]
  conv => rhs; rw [← List.map_id X]
  apply List.map_congr_left
  intro x hx
  have := h x hx
  simp [UInt8.toNat_ofNat_of_lt' (show x < UInt8.size by simpa using this)]
theorem recT_lt {kind address : Nat} {L : List Nat} (hk : kind < 256) (hL : ∀ x ∈ L, x < 256) : ∀ x ∈ recT kind address L, x < 256 := by
  intro x hx
  simp only [recT, List.mem_append] at hx
  rcases hx with (((h | h) | h) | h) | h
  · simp at h; omega
  · exact hx_lt _ (hd4_lt hk) x h
  · exact hx_lt _ hL x h
  · refine hx_lt _ (fun y hy => ?_) x h
    simp only [List.mem_cons, List.not_mem_nil, or_false] at hy
    rw [hy]; exact Nat.mod_lt _ (by decide)
  · simp at h; omega
theorem hexK_lt (D : List Nat) (hD : ∀ x ∈ D, x < 256) : ∀ k, ∀ x ∈ hexK D k, x < 256
  | 0, x, hx => by simp [hexK] at hx
  | k + 1, x, hx => by
    simp only [hexK, lineK, List.mem_append] at hx
    rcases hx with h | h | h
    · exact hexK_lt D hD k x h
    · unfold bankK at h
      split at h
      · exact recT_lt (by decide) (by intro y hy; simp only [List.mem_cons, List.not_mem_nil, or_false] at hy; omega) x h
      · simp at h
    · exact recT_lt (by decide) (fun y hy => hD y (List.mem_of_mem_drop (List.mem_of_mem_take hy))) x h
theorem hexT_lt (D : List Nat) (hD : ∀ x ∈ D, x < 256) : ∀ x ∈ hexT D, x < 256 := by
  intro x hx
  rcases List.mem_append.1 hx with h | h
  · exact hexK_lt D hD _ x h
  · exact recT_lt (by decide) (by simp) x h

set_option maxRecDepth 100000 in
set_option maxHeartbeats 4000000 in
theorem hexOf_any (D : List Nat) (a : Option Addr) (cap : Nat) (w : World) (hD : Bs w a D) (hc : D.length ≤ cap) (hm : D.length ≤ 1048576) (hcm : cap ≤ 9223372036854775807) :
    Calls Try.prog 11 #[.slice a D.length cap] w fun e w' => e = .returned (.string (ba (hexT D))) ∧ Below w.heap.size w w' := by
  have hD' : Hid (Bs w a D) := hD
  have hB0 : Hid (Bd w.heap.size w.heap.size [] (w.alloc (.cells #[.pointer none, .slice none 0 0] 52))) := Bd.new w
  have hE0 : Hid (Below w.heap.size w (w.alloc (.cells #[.pointer none, .slice none 0 0] 52))) := (Below.refl _ _).alloc (Nat.le_refl _) _
  clear hD
  go_enter Try.func11, Try.ntmps11
  go_wp2
  go_loopg [4] ((D.length + 15) / 16) (fun gk i wr => ∃ (k : Nat), k + gk = (D.length + 15) / 16 ∧ i = .int .i64 ((16 * k : Nat) : Int) ∧ Hid (Bd w.heap.size w.heap.size (hexK D k) wr) ∧ Hid (Below w.heap.size w wr))
  case atStart => exact ⟨0, by omega, rfl, hB0, hE0⟩
  case round =>
    clear hB0 hE0
    obtain ⟨k, hk, rfl, hBd, hBe⟩ := hrel
    by_cases hlt : 16 * k < D.length
    · obtain ⟨d, o, rfl, hd, hcl⟩ := hD'.out.cell (by omega)
      have hk0 : (0 : Int) ≤ ((16 * k : Nat) : Int) := by omega
      have hk1 : ((16 * k : Nat) : Int) < (D.length : Int) := by omega
      generalize hAt : 16 * k = at0 at *
      have hplen : (pcs D k).length = (min ((at0 : Int) + 16) (D.length : Int)).toNat - at0 := by rw [pcs_len]; omega
      have hXl := hexK_len D k
      by_cases hb1 : 0 < at0 / 65536
      · have hb1' : (0 : Int) < (at0 : Int) / 65536 := by omega
        by_cases hb2 : at0 % 65536 = 0
        · have hb2' : (((at0 : Int) % 65536) == 0) = true := by simp; omega
          have hbk : Hid (hexK D (k + 1) = (hexK D k ++ recT 4 0 [at0 / 65536 / 256 % 256, at0 / 65536 % 256]) ++ recT 0 (at0 % 65536) (pcs D k)) := by
            show _ = _
            simp only [hexK, lineK, bankK]
            rw [hAt, if_pos ⟨hb1, hb2⟩, List.append_assoc]
          have hL2 : ∀ x ∈ [at0 / 65536 / 256 % 256, at0 / 65536 % 256], x < 256 := by
            intro x hx
            simp only [List.mem_cons, List.not_mem_nil, or_false] at hx
            omega
          have hbd := hBd.out
          have hNw := Bsa.new hbd _ hL2
          have hEn : Below wr.heap.size wr (wr.alloc (.cells (v8 [at0 / 65536 / 256 % 256, at0 / 65536 % 256]).toArray 5)) := (Below.refl _ _).alloc (Nat.le_refl _) _
          have hwB := wrec_any w.heap.size w.heap.size _ _ 4 0 _ 2 _ (hbd.below hEn) hNw (by decide) (by simp) (by decide) (by simp; omega)
          have hE1 : Below w.heap.size w (wr.alloc (.cells (v8 [at0 / 65536 / 256 % 256, at0 / 65536 % 256]).toArray 5)) := hBe.out.alloc hBe.out.size _
          have hv : (v8 [at0 / 65536 / 256 % 256, at0 / 65536 % 256]).toArray = #[.int .u8 ((at0 : Int) / 65536 / 256), .int .u8 ((at0 : Int) / 65536)] := by
            have g1 : ((at0 / 65536 / 256 % 256 : Nat) : Int) = (at0 : Int) / 65536 / 256 := by omega
            have g2 : ((at0 / 65536 % 256 : Nat) : Int) = (at0 : Int) / 65536 := by omega
            rw [← g1, ← g2]; rfl
          rw [hv] at hwB hE1
          rw [show [at0 / 65536 / 256 % 256, at0 / 65536 % 256].length = 2 from rfl] at hwB
          have hXl2 : (hexK D k ++ recT 4 0 [at0 / 65536 / 256 % 256, at0 / 65536 % 256]).length ≤ 60 * k + 16 := by
            rw [List.length_append, recT_len]; simp; omega
          generalize hexK D k ++ recT 4 0 [at0 / 65536 / 256 % 256, at0 / 65536 % 256] = X0 at hwB hbk hXl2
          clear hBd hBe hNw hEn hv hbd
          go_upto_region 8 with (go_at_call 16; (with_reducible refine Calls.mono hwB ?_); rintro e WX ⟨rfl, hX0, hE2, hK2⟩)
          have hE0 := hE1.trans hE2
          clear hwB hE1 hE2 hK2
          have hwR := wrec_any w.heap.size w.heap.size X0 (pcs D k) 0 (at0 % 65536) (some ⟨d, o + at0, none⟩) (cap - at0) WX hX0 ⟨⟨fun x hx => hD'.out.1 x (List.mem_of_mem_drop (List.mem_of_mem_take hx)), .inr ⟨d, o + at0, rfl, Nat.lt_of_lt_of_le hd hE0.size, fun i hi => ?_⟩⟩, .inr ⟨d, o + at0, rfl, apart_old hX0 hd⟩⟩ (by decide) (by rw [pcs_len]; omega) (by omega) (by rw [pcs_len]; omega)
          rotate_left
          · rw [pcs_len] at hi
            rw [Nat.add_assoc]
            refine ((hE0.cell (p := ⟨d, o + (at0 + i), none⟩) hd).trans (hcl (at0 + i) (by omega))).trans ?_
            rw [← hAt]
            simp [pcs, List.getD_eq_getElem?_getD, show i < 16 by omega]
          rw [hplen, show ((at0 % 65536 : Nat) : Int) = (at0 : Int) % 65536 by simp] at hwR
          clear hcl
          go_upto_region 8 with fail
          go_wp2_with (go_at_call 16; (with_reducible refine Calls.mono hwR ?_); rintro e w2 ⟨rfl, hB2, hE2, hK2⟩)
          rw [← hbk.out] at hB2
          go_roundg ((D.length + 15) / 16 - (k + 1))
          case measure => go_light; omega
          case rel => exact ⟨k + 1, by omega, by rw [← hAt]; go_num, hB2, hE0.trans hE2⟩
        · have hb2' : (((at0 : Int) % 65536) == 0) = false := by simp; omega
          have hbk : Hid (hexK D (k + 1) = hexK D k ++ recT 0 (at0 % 65536) (pcs D k)) := by
            show _ = _
            simp only [hexK, lineK, bankK]
            rw [hAt, if_neg (by omega)]; rfl
          have hX0 : Bd w.heap.size w.heap.size (hexK D k) wr := hBd.out
          have hE0 : Below w.heap.size w wr := hBe.out
          generalize hexK D k = X0 at hX0 hbk hXl
          clear hBd hBe
          generalize hWX : wr = WX at *
          clear hWX
          have hwR := wrec_any w.heap.size w.heap.size X0 (pcs D k) 0 (at0 % 65536) (some ⟨d, o + at0, none⟩) (cap - at0) WX hX0 ⟨⟨fun x hx => hD'.out.1 x (List.mem_of_mem_drop (List.mem_of_mem_take hx)), .inr ⟨d, o + at0, rfl, Nat.lt_of_lt_of_le hd hE0.size, fun i hi => ?_⟩⟩, .inr ⟨d, o + at0, rfl, apart_old hX0 hd⟩⟩ (by decide) (by rw [pcs_len]; omega) (by omega) (by rw [pcs_len]; omega)
          rotate_left
          · rw [pcs_len] at hi
            rw [Nat.add_assoc]
            refine ((hE0.cell (p := ⟨d, o + (at0 + i), none⟩) hd).trans (hcl (at0 + i) (by omega))).trans ?_
            rw [← hAt]
            simp [pcs, List.getD_eq_getElem?_getD, show i < 16 by omega]
          rw [hplen, show ((at0 % 65536 : Nat) : Int) = (at0 : Int) % 65536 by simp] at hwR
          clear hcl
          go_upto_region 8 with fail
          go_wp2_with (go_at_call 16; (with_reducible refine Calls.mono hwR ?_); rintro e w2 ⟨rfl, hB2, hE2, hK2⟩)
          rw [← hbk.out] at hB2
          go_roundg ((D.length + 15) / 16 - (k + 1))
          case measure => go_light; omega
          case rel => exact ⟨k + 1, by omega, by rw [← hAt]; go_num, hB2, hE0.trans hE2⟩
      · have hb1' : ¬ (0 : Int) < (at0 : Int) / 65536 := by omega
        have hbk : Hid (hexK D (k + 1) = hexK D k ++ recT 0 (at0 % 65536) (pcs D k)) := by
          show _ = _
          simp only [hexK, lineK, bankK]
          rw [hAt, if_neg (by omega)]; rfl
        have hX0 : Bd w.heap.size w.heap.size (hexK D k) wr := hBd.out
        have hE0 : Below w.heap.size w wr := hBe.out
        generalize hexK D k = X0 at hX0 hbk hXl
        clear hBd hBe
        generalize hWX : wr = WX at *
        clear hWX
        have hwR := wrec_any w.heap.size w.heap.size X0 (pcs D k) 0 (at0 % 65536) (some ⟨d, o + at0, none⟩) (cap - at0) WX hX0 ⟨⟨fun x hx => hD'.out.1 x (List.mem_of_mem_drop (List.mem_of_mem_take hx)), .inr ⟨d, o + at0, rfl, Nat.lt_of_lt_of_le hd hE0.size, fun i hi => ?_⟩⟩, .inr ⟨d, o + at0, rfl, apart_old hX0 hd⟩⟩ (by decide) (by rw [pcs_len]; omega) (by omega) (by rw [pcs_len]; omega)
        rotate_left
        · rw [pcs_len] at hi
          rw [Nat.add_assoc]
          refine ((hE0.cell (p := ⟨d, o + (at0 + i), none⟩) hd).trans (hcl (at0 + i) (by omega))).trans ?_
          rw [← hAt]
          simp [pcs, List.getD_eq_getElem?_getD, show i < 16 by omega]
        rw [hplen, show ((at0 % 65536 : Nat) : Int) = (at0 : Int) % 65536 by simp] at hwR
        clear hcl
        go_upto_region 8 with fail
        go_wp2_with (go_at_call 16; (with_reducible refine Calls.mono hwR ?_); rintro e w2 ⟨rfl, hB2, hE2, hK2⟩)
        rw [← hbk.out] at hB2
        go_roundg ((D.length + 15) / 16 - (k + 1))
        case measure => go_light; omega
        case rel => exact ⟨k + 1, by omega, by rw [← hAt]; go_num, hB2, hE0.trans hE2⟩
    · obtain rfl : k = (D.length + 15) / 16 := by omega
      have hk1 : ¬ ((16 * ((D.length + 15) / 16) : Nat) : Int) < (D.length : Int) := by omega
      have hXl := hexK_len D ((D.length + 15) / 16)
      have hbd := hBd.out
      have hwE := wrec_any w.heap.size w.heap.size _ [] 1 0 none 0 wr hbd ⟨⟨by simp, .inl rfl⟩, .inl rfl⟩ (by decide) (by simp) (by decide) (by simp; omega)
      have hTx : Hid (hexK D ((D.length + 15) / 16) ++ recT 1 0 [] = hexT D) := rfl
      have hlt2 := hexT_lt D hD'.out.1
      rw [hTx.out] at hwE
      have hne : hexT D ≠ [] := by
        intro e
        have := congrArg List.length e
        unfold hexT at this
        rw [List.length_append, recT_len] at this
        simp at this
      generalize 16 * ((D.length + 15) / 16) = at0 at *
      clear hBd hXl hTx hbd
      go_upto_region 10 with (go_at_call 16; (with_reducible refine Calls.mono hwE ?_); rintro e w2 ⟨rfl, hB2, hE2, hK2⟩)
      have hSt := string_any w.heap.size w.heap.size ((hexT D).map UInt8.ofNat) w2 (by rw [← byteCells_v8 _ hlt2]; exact hB2.1) (by simpa using hne)
      go_wp2_with (go_at_call 17; (with_reducible refine Calls.mono hSt ?_); rintro e w3 ⟨rfl, hE3⟩)
      go_ret
      exact ⟨rfl, (hBe.out.trans hE2).trans hE3⟩
end Go.Proofs.Ytbgfeogigjjmdaa
