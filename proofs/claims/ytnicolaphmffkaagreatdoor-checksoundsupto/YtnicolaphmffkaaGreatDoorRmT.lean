import Derived.Test.YtnicolaphmffkaaGreatDoorRmA
set_option linter.unusedVariables false
set_option linter.unusedSimpArgs false
namespace Go.Proofs.YtnicolaphmffkaaGreatDoor
open Go.RowKit
theorem infoD27 : (Tryz.prog.info? 27).map (fun i => (i.zero, i.size, i.bytes)) = some (some (.slice none 0 0), 1, 24) := by kernel_rfl
set_option maxRecDepth 100000 in
set_option maxHeartbeats 8000000 in
/-- Room.Texts. -/
theorem roomTexts_any (L : List ByteArray) (va : Option Addr) (c rb : Nat) (o : Nat → Nat) (B : Nat) (F : Nat → List Lr) (V : Nat → Value) (W : World) (hF : Fl 1 txC W (.slice va L.length c) L) (hlen : L.length ≤ 1048576) (hR : Rm o B W rb F V) (hb : (F 11).length ≤ 5864062014000) :
    Calls Tryz.prog 26 #[.pointer (some ⟨rb, 0, none⟩), .slice va L.length c] W fun e W' => RmQ o B W rb F 11 L.length (cellsF txC L ++ [.string ⟨#[114, 111, 111, 109]⟩, .string ⟨#[114, 111, 111, 109]⟩]) e W' := by
  obtain ⟨ti, hi, hi0, hi1, hi2⟩ := info_parts info9
  obtain ⟨tj, hj, hj0, hj1, hj2⟩ := info_parts infoD27
  have hNw := (fl_src tmLenR (by decide) hF).1
  have hva := (fl_src tmLenR (by decide) hF).2
  clear hF
  go_enter Tryz.func26, Tryz.ntmps26
  go_upto_region 2 with (first
    | (at_builtin; (refine wpList_copyv rfl _ _ 27 rfl 9 ti _ 1 16 Tryz.underlying27 hi hi0 hi1 hi2 rfl (by decide) va L.length c (cellsF txC L) rfl rfl (cellsF_len tmLenR _) hNw (cellsF_one tmOneR _) hva (by unfold maxLen; omega) (by omega) ?_); intro a1 k1 w2 o2 b2; have o3 := own_bel o2 (bel1 (.cells #[.string ⟨#[114, 111, 111, 109]⟩, .string ⟨#[114, 111, 111, 109]⟩] 9)); have s3 : W.heap.size ≤ (w2.alloc (.cells #[.string ⟨#[114, 111, 111, 109]⟩, .string ⟨#[114, 111, 111, 109]⟩] 9)).heap.size := (by have := b2.size; simp; omega))
    | (at_builtin; (refine wpList_append_mine _ rfl _ _ 27 rfl W.heap.size 9 ti _ 1 16 Tryz.underlying27 hi hi0 hi1 hi2 rfl (by decide) (.slice a1 L.length k1) L.length (cellsF txC L) rfl o3 ⟨w2.heap.size, 0, none⟩ 2 2 [.string ⟨#[114, 111, 111, 109]⟩, .string ⟨#[114, 111, 111, 109]⟩] rfl rfl (cells_at (W := w2) rfl _ _) (all_one rfl) (by decide) (by unfold maxLen; omega) (by omega) s3 ?_); intro g6 k6 w6 o6 gr6 at6 _ hc6))
  have b6 : Below W.heap.size W w6 := grown_bel (b2.alloc b2.size (.cells #[.string ⟨#[114, 111, 111, 109]⟩, .string ⟨#[114, 111, 111, 109]⟩] 9)) gr6 (Nat.le_refl _) (fun q hq => (own_lt o2 q hq).1)
  have hm6 : MkP (rS 11) (rO 11) (rV 11) (nwO W.heap.size) w6 ⟨g6, L.length + 2, k6⟩ := rm_mark (n := L.length) o6 (cellsF_len tmLenR L) hlen (Nat.le_refl _) (by rfl) (by rfl)
  have hcap : L.length + 2 ≤ k6 := own_capR o6 (by omega)
  have i1 : (L.length : Int) ≤ (k6 : Int) := by omega
  have i2 : (0 : Int) ≤ (L.length : Int) := by omega
  have i3 : L.length ≤ k6 := by omega
  have hR6 := hR.below b6
  have c6 := hR6.cl 11 (by decide)
  have f6 := hR6.fz 11
  have l6 := hR6.lt
  obtain ⟨fa, fc, hV⟩ := own_form (hR6.fl 11 (by decide)).own.own
  have hF6 := (hR6.fl 11 (by decide)).own.own
  have hVh := hideQ hV
  rw [hV] at c6 hF6
  have hb7 := bel1 (w := w6) (.cells #[.slice (some ⟨g6, 0, none⟩) (L.length + 2) k6] 27)
  have hF7 := own_bel hF6 hb7
  have s7 : B ≤ (w6.alloc (.cells #[.slice (some ⟨g6, 0, none⟩) (L.length + 2) k6] 27)).heap.size := (by have := hR6.bb; simp; omega)
  have hFz := hideQ (fz_own0 o6 (Nat.le_refl _))
  clear hV hF6 hR6
  go_wp2_with (at_builtin; (refine wpList_append_mine _ rfl _ _ 45 rfl B 27 tj _ 1 24 Tryz.underlying45 hj hj0 hj1 hj2 rfl (by decide) (.slice fa (F 11).length fc) (F 11).length (cellsF Lr.cs (F 11)) rfl hF7 ⟨w6.heap.size, 0, none⟩ 1 1 [.slice (some ⟨g6, 0, none⟩) (L.length + 2) k6] rfl rfl (cells_at (W := w6) rfl _ _) (all_one rfl) (by decide) (by unfold maxLen; omega) (by omega) s7 ?_); intro g7 k7 w7 o7 gr7 at7 _ hc7; have q7 := rm_gw hR (k := 11) (by decide) (bel_after b6 b6.size hb7) (by rw [hVh.out]; exact gr7) (by rw [hVh.out]; exact at7); have hP := hR.push (r := ⟨g6, L.length + 2, k6⟩) (by decide) q7 o7 ((hm6.mv (Mv.below hb7)).mv q7.mvI); have c7 := (cell_heap (j := 11) (q7.ky.block rb hR.lt (by rw [hR.ob]; decide))).trans (hR.cl 11 (by decide)); rw [hVh.out] at c7; have f7 := rm_fz hR q7 11; have l7 : rb < w7.heap.size := Nat.lt_of_lt_of_le hR.lt q7.ky.size)
  go_ret
  refine ⟨_, g6, k6, _, rfl, hP.1, hP.2, hcap, ?_⟩
  exact ((hFz.out.mv (Mv.below hb7)).mv q7.mvI).mv (hR.ksm _ _ _ _ _)
end Go.Proofs.YtnicolaphmffkaaGreatDoor
