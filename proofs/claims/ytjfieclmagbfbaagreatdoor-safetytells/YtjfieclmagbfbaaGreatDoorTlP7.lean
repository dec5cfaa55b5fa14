import Derived.Test.YtjfieclmagbfbaaGreatDoorTlP
set_option linter.unusedVariables false
set_option linter.unusedSimpArgs false
namespace Go.Proofs.YtjfieclmagbfbaaGreatDoor
open Go.RowKit
theorem own_built4 {w : World} {base e : Nat} {v0 v1 v2 v3 : Value} (hb : base ≤ w.heap.size) : (w.alloc (.cells #[v0, v1, v2, v3] e)).ownsRow base e 4 (.slice (some ⟨w.heap.size, 0, none⟩) 1 1) 1 [v0, v1, v2, v3] :=
  ⟨rfl, .inr ⟨w.heap.size, 1, #[v0, v1, v2, v3], rfl, hb, heap_alloc_new w _, by omega, by unfold maxLen; omega, rfl, rfl⟩⟩
theorem map_step {α : Type} (g : α → α) {C : List α} {j : Nat} (h : j < C.length) : ((C.take j).map g ++ C.drop j).set j (g C[j]) = (C.take (j + 1)).map g ++ C.drop (j + 1) := by
  have hl : ((C.take j).map g).length = j := by rw [List.length_map, List.length_take]; omega
  rw [List.set_append_right _ _ (by omega), hl, Nat.sub_self, List.drop_eq_getElem_cons h, List.take_succ_eq_append_getElem h, List.map_append, List.append_assoc]
  rfl
theorem mid_at {α : Type} (g : α → α) {C : List α} {j : Nat} (h : j < C.length) (h2 : j < ((C.take j).map g ++ C.drop j).length) : ((C.take j).map g ++ C.drop j)[j] = C[j] := by
  have hl : ((C.take j).map g).length = j := by rw [List.length_map, List.length_take]; omega
  rw [List.getElem_append_right (by omega)]
  simp only [hl, Nat.sub_self, List.getElem_drop, Nat.add_zero]
theorem mid_len {α : Type} (g : α → α) {C : List α} {j : Nat} (h : j ≤ C.length) : ((C.take j).map g ++ C.drop j).length = C.length := by
  rw [List.length_append, List.length_map, List.length_take, List.length_drop]; omega
theorem cq7_1 {f i : Int} {d : Cf} (h1 : d.a = f ∧ d.b = i) (h2 : ¬ (d.b = f ∧ d.a = i)) : cq7 f i d = ⟨d.a, d.b, 3600, d.ba⟩ := by unfold cq7; rw [if_pos h1, if_neg h2]
theorem cq7_2 {f i : Int} {d : Cf} (h1 : ¬ (d.a = f ∧ d.b = i)) (h2 : d.b = f ∧ d.a = i) : cq7 f i d = ⟨d.a, d.b, d.ab, 3600⟩ := by unfold cq7; rw [if_neg h1, if_pos h2]
theorem cq7_0 {f i : Int} {d : Cf} (h1 : ¬ (d.a = f ∧ d.b = i)) (h2 : ¬ (d.b = f ∧ d.a = i)) : cq7 f i d = d := by unfold cq7; rw [if_neg h1, if_neg h2]
set_option maxRecDepth 100000 in
set_option maxHeartbeats 4000000 in
theorem spoil7 (n : Nat) (am V : Int) (i : Nat) (kk : Int) (o : Nat → Nat) (B : Nat) (C : List Cf) (Y : List Sv) (ga ca sa : Option Addr) (gc cc sc : Nat) (w : World) (h : Rg n am i) (hC : Cs n am V C) (hR : Hid (Rn o B w (gL n am) C Y (.slice ga n gc) (.slice ca C.length cc) (.slice sa n sc))) (hY : Y.map (·.x) = sL n) :
    Calls Tryz.prog 7 #[(.agg #[.string ⟨#[114, 105, 110, 103]⟩, .slice ga n gc, .slice ca C.length cc, .slice none 0 0, .slice none 0 0, .slice none 0 0, .slice none 0 0, .slice sa n sc, .int .i64 0]), .int .i64 7, .int .i64 (i : Int), .int .i64 kk] w fun e w' => SpP o B ((gL n am).set i (y7 am i)) (C.map (cq7 (((i + n - 1) % n : Nat) : Int) i)) (sL n) ((if i = 0 then [⟨67, -1, -1, 0⟩] else []) ++ [⟨67, (((i + n - 1) % n : Nat) : Int), -1, (i : Int)⟩]) (.slice ga n gc) (.slice ca C.length cc) (.slice sa n sc) w e w' := by
  have n2 := h.n2
  have n26 := h.n26
  have hi := h.hi
  have a3 := h.a3
  have hCl : 0 < C.length := by
    obtain ⟨c, hc, _⟩ := pr_has hC.pr 0 1 (by omega) (by omega)
    exact List.length_pos_of_mem hc
  have hC6 : C.length ≤ 676 := by have := prL_few n (by omega); rw [← hC.pr, List.length_map] at this; exact this
  have owC := hR.out.oC.own
  obtain ⟨gC, capC, e1, _, hgBC, hgC⟩ := own_block owC (by omega)
  injection e1 with e1 e0 e2
  clear e0
  subst e1
  subst e2
  have fzC := owC.frozenAt
  have gSC : gC < w.heap.size + 1 := by omega
  have ow := hR.out.oG.own
  rw [gL_len] at ow
  obtain ⟨gG, cap, e1, _, hgB, hgG⟩ := own_block ow (by omega)
  injection e1 with e1 e0 e2
  clear e0
  subst e1
  subst e2
  have gS : gG < w.heap.size + 1 := by omega
  have hgi : i < (gL n am).length := by rw [gL_len]; exact hi
  have c1 : w.cell? ⟨gG, i * 5 + 1, none⟩ = some (.int .i64 (gN am i).sort) := own_reads ow rfl _ _ (by rw [cellsF_get gp_len (gL n am) i 1 hgi (by decide), gp_at hi hgi]; rfl)
  have c4 : w.cell? ⟨gG, i * 5 + 4, none⟩ = some (.int .i64 0) := own_reads ow rfl _ _ (by rw [cellsF_get gp_len (gL n am) i 4 hgi (by decide), gp_at hi hgi]; rfl)
  have fz := ow.frozenAt
  have t1 : (i : Int) < (n : Int) := by omega
  have t0 : (0 : Int) ≤ (i : Int) := by omega
  have neq : gG ≠ gC := by
    intro e
    have t1 := hR.out.oG.tag gG rfl
    have t2 := hR.out.oC.tag gC rfl
    rw [e, t2] at t1; cases t1
  obtain ⟨f1, f2, f3, f4⟩ := fr_ne n2 hi
  clear f3 f4
  have hff : ((i : Int) + (n : Int) - 1) % (n : Int) = (((i + n - 1) % n : Nat) : Int) := by
    rw [Int.natCast_emod, show ((i + n - 1 : Nat) : Int) = (i : Int) + (n : Int) - 1 by omega]
  obtain ⟨f, hf⟩ : ∃ x, Hid ((i + n - 1) % n = x) := ⟨_, rfl⟩
  rw [hf.out] at f1 f2 hff ⊢
  obtain ⟨F, hF⟩ : ∃ x, Hid ((if i = 0 then [(⟨67, -1, -1, 0⟩ : Fd)] else []) ++ [(⟨67, (f : Int), -1, (i : Int)⟩ : Fd)] = x) := ⟨_, rfl⟩
  rw [hF.out]
  have n0 : (0 : Int) < (n : Int) := by omega
  have s0 : (0 : Int) ≤ (i : Int) + (n : Int) - 1 := by omega
  have s1 : (0 : Int) ≤ (f : Int) := by omega
  have s2 : (f : Int) < (n : Int) := by omega
  have o9 := ((ow.stored (i * 5 + 1) (.int .i64 1)).1.stored (i * 5 + 4) (.int .i64 3)).1
  rw [put1 gp_len hgi (by decide) (y := ⟨(gN am i).name, 1, 5, am, 0⟩) (by rw [gp_at hi hgi]; rfl), put1 gp_len (by rw [List.length_set]; exact hgi) (by decide) (y := y7 am i) (by rw [List.getElem_set_self]; rfl), List.set_set] at o9
  have y9 := (only_of_set w gG (i * 5 + 1) (.int .i64 1)).trans (only_of_set (w.setCell ⟨gG, i * 5 + 1, none⟩ (.int .i64 1)) gG (i * 5 + 4) (.int .i64 3))
  have hR9 := hR.out.setG (G' := ((gL n am).set i (y7 am i))) rfl y9 (by rw [gS_len]; exact o9)
  have hR1 := hideG (hR9.below (bel1 (.cells #[.string ⟨#[114, 105, 110, 103]⟩, .slice (some ⟨gG, 0, none⟩) n gc, .slice (some ⟨gC, 0, none⟩) C.length cc, .slice none 0 0, .slice none 0 0, .slice none 0 0, .slice none 0 0, .slice sa n sc, .int .i64 0] 31)))
  have ho1 := hideG ((y9.mono (T := fun q => (Value.slice (some ⟨gG, 0, none⟩) n gc).ownBlock = some q ∨ (Value.slice (some ⟨gC, 0, none⟩) C.length cc).ownBlock = some q ∨ (Value.slice sa n sc).ownBlock = some q) (fun q e => .inl (by rw [e]; rfl))).alloc (.cells #[.string ⟨#[114, 105, 110, 103]⟩, .slice (some ⟨gG, 0, none⟩) n gc, .slice (some ⟨gC, 0, none⟩) C.length cc, .slice none 0 0, .slice none 0 0, .slice none 0 0, .slice none 0 0, .slice sa n sc, .int .i64 0] 31))
  have hB1 := hideG (Has.new ((w.setCell ⟨gG, i * 5 + 1, none⟩ (.int .i64 1)).setCell ⟨gG, i * 5 + 4, none⟩ (.int .i64 3)) #[.string ⟨#[114, 105, 110, 103]⟩, .slice (some ⟨gG, 0, none⟩) n gc, .slice (some ⟨gC, 0, none⟩) C.length cc, .slice none 0 0, .slice none 0 0, .slice none 0 0, .slice none 0 0, .slice sa n sc, .int .i64 0] 31 (b := w.heap.size) (by simp [World.setCell]))
  clear ow owC o9 y9 hR9 fzC
  go_enter Tryz.func7, Tryz.ntmps7
  go_wp2_with fail
  simp only [hff]
  generalize (((w.setCell ⟨gG, i * 5 + 1, none⟩ (.int .i64 1)).setCell ⟨gG, i * 5 + 4, none⟩ (.int .i64 3)).alloc (.cells #[.string ⟨#[114, 105, 110, 103]⟩, .slice (some ⟨gG, 0, none⟩) n gc, .slice (some ⟨gC, 0, none⟩) C.length cc, .slice none 0 0, .slice none 0 0, .slice none 0 0, .slice none 0 0, .slice sa n sc, .int .i64 0] 31)) = w1 at *
  clear c1 c4 fz hff hR
  go_loopg [14, 15] C.length (fun gk s14 s15 wr => ∃ (j : Nat) (C2 : List Cf), j + gk = C.length ∧ s14 = .int .i64 (j : Int) ∧ Hid (C2 = (C.take j).map (cq7 (f : Int) i) ++ C.drop j) ∧ Hid (Rn o B wr ((gL n am).set i (y7 am i)) C2 Y (.slice (some ⟨gG, 0, none⟩) n gc) (.slice (some ⟨gC, 0, none⟩) C.length cc) (.slice sa n sc)) ∧ Hid (Has wr w.heap.size #[.string ⟨#[114, 105, 110, 103]⟩, .slice (some ⟨gG, 0, none⟩) n gc, .slice (some ⟨gC, 0, none⟩) C.length cc, .slice none 0 0, .slice none 0 0, .slice none 0 0, .slice none 0 0, .slice sa n sc, .int .i64 0]) ∧ Hid (Only (fun q => (Value.slice (some ⟨gG, 0, none⟩) n gc).ownBlock = some q ∨ (Value.slice (some ⟨gC, 0, none⟩) C.length cc).ownBlock = some q ∨ (Value.slice sa n sc).ownBlock = some q) w wr))
  case atStart => exact ⟨0, C, by omega, rfl, rfl, hR1, hB1, ho1⟩
  case round =>
    obtain ⟨j, C2, hj, rfl, hC2, hR2, hB2, hO2⟩ := hrel
    obtain ⟨_, b2, bz⟩ := id hB2.out
    by_cases hlt : j < C.length
    · have q1 : (j : Int) < (C.length : Int) := by omega
      have q0 : (0 : Int) ≤ (j : Int) := by omega
      have hl2 : C2.length = C.length := by rw [hC2.out]; exact mid_len _ (by omega)
      have hj2 : j < C2.length := by omega
      have hat : C2[j] = C[j] := by
        have e := hC2.out
        subst e
        exact mid_at _ hlt _
      have hstep : C2.set j (cq7 (f : Int) i C[j]) = (C.take (j + 1)).map (cq7 (f : Int) i) ++ C.drop (j + 1) := by rw [hC2.out]; exact map_step _ hlt
      obtain ⟨a, b, ea, eb, hab, hbn⟩ := pr_in hC.pr C[j] (List.getElem_mem hlt)
      have ow := hR2.out.oC.own
      rw [hl2] at ow
      have fzC := ow.frozenAt
      have cA : wr.cell? ⟨gC, j * 4, none⟩ = some (.int .i64 (a : Int)) := own_reads ow rfl _ _ (by rw [show j * 4 = j * 4 + 0 by omega, cellsF_get cf_len C2 j 0 hj2 (by decide), hat, ← ea]; rfl)
      have cB : wr.cell? ⟨gC, j * 4 + 1, none⟩ = some (.int .i64 (b : Int)) := own_reads ow rfl _ _ (by rw [cellsF_get cf_len C2 j 1 hj2 (by decide), hat, ← eb]; rfl)
      have cX : wr.cell? ⟨gC, j * 4 + 2, none⟩ = some (.int .i64 C[j].ab) := own_reads ow rfl _ _ (by rw [cellsF_get cf_len C2 j 2 hj2 (by decide), hat]; rfl)
      have cY : wr.cell? ⟨gC, j * 4 + 3, none⟩ = some (.int .i64 C[j].ba) := own_reads ow rfl _ _ (by rw [cellsF_get cf_len C2 j 3 hj2 (by decide), hat]; rfl)
      have g2 : gC < wr.heap.size := (own_lt ow gC rfl).2
      have nbx : w.heap.size ≠ gC := by omega
      by_cases e1 : a = f
      · have e1 := e1.symm
        subst e1
        have p0 : ¬ (b : Int) = (f : Int) := by omega
        by_cases e2 : b = i
        · have e2 := e2.symm
          subst e2
          have o8 := (ow.stored (j * 4 + 2) (.int .i64 3600)).1
          rw [put1 cf_len hj2 (by decide) (y := cq7 (f : Int) i C[j]) (by rw [hat, cq7_1 ⟨ea, eb⟩ (by omega)]; rfl)] at o8
          have y8 := only_of_set wr gC (j * 4 + 2) (.int .i64 3600)
          have hR3 : Hid (Rn o B (wr.setCell ⟨gC, j * 4 + 2, none⟩ (.int .i64 3600)) ((gL n am).set i (y7 am i)) (C2.set j (cq7 (f : Int) i C[j])) Y (.slice (some ⟨gG, 0, none⟩) n gc) (.slice (some ⟨gC, 0, none⟩) C.length cc) (.slice sa n sc)) := hR2.out.setC rfl y8 (by rw [List.length_set, hl2]; exact o8)
          have hB3 : Hid (Has (wr.setCell ⟨gC, j * 4 + 2, none⟩ (.int .i64 3600)) w.heap.size #[.string ⟨#[114, 105, 110, 103]⟩, .slice (some ⟨gG, 0, none⟩) n gc, .slice (some ⟨gC, 0, none⟩) C.length cc, .slice none 0 0, .slice none 0 0, .slice none 0 0, .slice none 0 0, .slice sa n sc, .int .i64 0]) := hB2.out.far (by omega) _
          have hO3 : Hid (Only (fun q => (Value.slice (some ⟨gG, 0, none⟩) n gc).ownBlock = some q ∨ (Value.slice (some ⟨gC, 0, none⟩) C.length cc).ownBlock = some q ∨ (Value.slice sa n sc).ownBlock = some q) w (wr.setCell ⟨gC, j * 4 + 2, none⟩ (.int .i64 3600))) := hO2.out.trans (y8.mono (fun q e => .inr (.inl (by rw [e]; rfl))))
          have hS3 : Hid (C2.set j (cq7 (f : Int) i C[j]) = (C.take (j + 1)).map (cq7 (f : Int) i) ++ C.drop (j + 1)) := hstep
          have eaH := hideG ea
          have ebH := hideG eb
          generalize C[j].ab = xa at cX
          generalize C[j].ba = xb at cY
          clear o8 y8 ow hR2 hB2 hO2 hC2 hstep hat hl2 ea eb
          go_wp2_with fail
          go_roundg (gk - 1)
          case measure => go_light; omega
          case rel => exact ⟨j + 1, _, by omega, by go_num, hS3, hR3, hB3, hO3⟩
        · have p1 : ¬ (b : Int) = (i : Int) := by omega
          have hS3 : Hid (C2 = (C.take (j + 1)).map (cq7 (f : Int) i) ++ C.drop (j + 1)) := by
            show _ = _
            rw [← hstep, cq7_0 (by omega) (by omega), ← hat, List.set_getElem_self]
          generalize C[j].ab = xa at cX
          generalize C[j].ba = xb at cY
          clear ow hC2 hstep hat hl2 ea eb
          go_wp2_with fail
          go_roundg (gk - 1)
          case measure => go_light; omega
          case rel => exact ⟨j + 1, _, by omega, by go_num, hS3, hR2, hB2, hO2⟩
      · have p0 : ¬ (a : Int) = (f : Int) := by omega
        by_cases e2 : b = f
        · have e2 := e2.symm
          subst e2
          by_cases e3 : a = i
          · have e3 := e3.symm
            subst e3
            have o8 := (ow.stored (j * 4 + 3) (.int .i64 3600)).1
            rw [put1 cf_len hj2 (by decide) (y := cq7 (f : Int) i C[j]) (by rw [hat, cq7_2 (by omega) ⟨eb, ea⟩]; rfl)] at o8
            have y8 := only_of_set wr gC (j * 4 + 3) (.int .i64 3600)
            have hR3 : Hid (Rn o B (wr.setCell ⟨gC, j * 4 + 3, none⟩ (.int .i64 3600)) ((gL n am).set i (y7 am i)) (C2.set j (cq7 (f : Int) i C[j])) Y (.slice (some ⟨gG, 0, none⟩) n gc) (.slice (some ⟨gC, 0, none⟩) C.length cc) (.slice sa n sc)) := hR2.out.setC rfl y8 (by rw [List.length_set, hl2]; exact o8)
            have hB3 : Hid (Has (wr.setCell ⟨gC, j * 4 + 3, none⟩ (.int .i64 3600)) w.heap.size #[.string ⟨#[114, 105, 110, 103]⟩, .slice (some ⟨gG, 0, none⟩) n gc, .slice (some ⟨gC, 0, none⟩) C.length cc, .slice none 0 0, .slice none 0 0, .slice none 0 0, .slice none 0 0, .slice sa n sc, .int .i64 0]) := hB2.out.far (by omega) _
            have hO3 : Hid (Only (fun q => (Value.slice (some ⟨gG, 0, none⟩) n gc).ownBlock = some q ∨ (Value.slice (some ⟨gC, 0, none⟩) C.length cc).ownBlock = some q ∨ (Value.slice sa n sc).ownBlock = some q) w (wr.setCell ⟨gC, j * 4 + 3, none⟩ (.int .i64 3600))) := hO2.out.trans (y8.mono (fun q e => .inr (.inl (by rw [e]; rfl))))
            have hS3 : Hid (C2.set j (cq7 (f : Int) i C[j]) = (C.take (j + 1)).map (cq7 (f : Int) i) ++ C.drop (j + 1)) := hstep
            have eaH := hideG ea
            have ebH := hideG eb
            generalize C[j].ab = xa at cX
            generalize C[j].ba = xb at cY
            clear o8 y8 ow hR2 hB2 hO2 hC2 hstep hat hl2 ea eb
            go_wp2_with fail
            go_roundg (gk - 1)
            case measure => go_light; omega
            case rel => exact ⟨j + 1, _, by omega, by go_num, hS3, hR3, hB3, hO3⟩
          · have p1 : ¬ (a : Int) = (i : Int) := by omega
            have hS3 : Hid (C2 = (C.take (j + 1)).map (cq7 (f : Int) i) ++ C.drop (j + 1)) := by
              show _ = _
              rw [← hstep, cq7_0 (by omega) (by omega), ← hat, List.set_getElem_self]
            generalize C[j].ab = xa at cX
            generalize C[j].ba = xb at cY
            clear ow hC2 hstep hat hl2 ea eb
            go_wp2_with fail
            go_roundg (gk - 1)
            case measure => go_light; omega
            case rel => exact ⟨j + 1, _, by omega, by go_num, hS3, hR2, hB2, hO2⟩
        · have p1 : ¬ (b : Int) = (f : Int) := by omega
          have hS3 : Hid (C2 = (C.take (j + 1)).map (cq7 (f : Int) i) ++ C.drop (j + 1)) := by
            show _ = _
            rw [← hstep, cq7_0 (by omega) (by omega), ← hat, List.set_getElem_self]
          generalize C[j].ab = xa at cX
          generalize C[j].ba = xb at cY
          clear ow hC2 hstep hat hl2 ea eb
          go_wp2_with fail
          go_roundg (gk - 1)
          case measure => go_light; omega
          case rel => exact ⟨j + 1, _, by omega, by go_num, hS3, hR2, hB2, hO2⟩
    · have q1 : ¬ (j : Int) < (C.length : Int) := by omega
      obtain rfl : j = C.length := by omega
      have hE : Hid (C2 = C.map (cq7 (f : Int) i)) := by show _ = _; rw [hC2.out, List.take_length, List.drop_length, List.append_nil]
      rw [hE.out] at hR2
      by_cases e0 : i = 0
      · subst e0
        obtain rfl : [(⟨67, -1, -1, 0⟩ : Fd), ⟨67, (f : Int), -1, 0⟩] = F := hF.out
        obtain ⟨i70, h70, h700, h701, h702⟩ := info_parts info70
        have HF : Hid (Has ((wr.alloc (.cells #[.int .i64 67, .int .i64 (f : Int), .int .i64 (-1), .int .i64 0] 70)).alloc (.cells #[.int .i64 67, .int .i64 (-1), .int .i64 (-1), .int .i64 0] 70)) wr.heap.size #[.int .i64 67, .int .i64 (f : Int), .int .i64 (-1), .int .i64 0]) := (Has.new wr _ _ rfl).alloc _
        have own0 := own_built4 (w := wr.alloc (.cells #[.int .i64 67, .int .i64 (f : Int), .int .i64 (-1), .int .i64 0] 70)) (base := wr.heap.size + 1) (e := 70) (v0 := .int .i64 67) (v1 := .int .i64 (-1)) (v2 := .int .i64 (-1)) (v3 := .int .i64 0) (by simp)
        have hs8 : Hid (((wr.alloc (.cells #[.int .i64 67, .int .i64 (f : Int), .int .i64 (-1), .int .i64 0] 70)).alloc (.cells #[.int .i64 67, .int .i64 (-1), .int .i64 (-1), .int .i64 0] 70)).heap.size = wr.heap.size + 1 + 1) := by show _ = _; simp
        clear hC2 hB2 hE hC hf hF hR1 hB1 ho1
        go_wp2_with (at_builtin; (refine wpList_append_mine _ rfl _ _ 33 rfl (wr.heap.size + 1) 70 i70 _ 4 32 Tryz.underlying33 h70 h700 h701 h702 rfl (by decide) (.slice (some ⟨wr.heap.size + 1, 0, none⟩) 1 1) 1 [.int .i64 67, .int .i64 (-1), .int .i64 (-1), .int .i64 0] rfl (by simpa using own0) ⟨wr.heap.size, 0, none⟩ 1 1 [.int .i64 67, .int .i64 (f : Int), .int .i64 (-1), .int .i64 0] rfl rfl (by intro jx ux hux; rw [Go.WideShapes.add_plain, Nat.zero_add, HF.out.2.1 jx]; simpa using hux) (all_one rfl) (by decide) (by unfold maxLen; omega) (by omega) (by have := hs8.out; omega) ?_); intro g9 k9 w9 o9 gr9 at9 _ hc9)
        go_ret
        have hrow : ∀ q, (Value.slice (some ⟨wr.heap.size + 1, 0, none⟩) 1 1).ownBlock = some q → wr.heap.size ≤ q := fun q hq => by
          have e : wr.heap.size + 1 = q := Option.some.inj hq
          omega
        have hBx : Below wr.heap.size wr w9 := grown_bel belA gr9 (Nat.le_refl _) hrow
        exact ⟨Y, some ⟨g9, 0, none⟩, k9, rfl, fl_ofK fd_len (show w9.ownsRow (wr.heap.size + 1) 70 4 (.slice (some ⟨g9, 0, none⟩) 2 k9) 2 (cellsF Fd.cs [⟨67, -1, -1, 0⟩, ⟨67, (f : Int), -1, 0⟩]) from o9), hR2.out.below hBx, hY, hO2.out.trans (Only.of_below hBx)⟩
      · obtain rfl : [(⟨67, (f : Int), -1, (i : Int)⟩ : Fd)] = F := by rw [← hF.out, if_neg e0]; rfl
        have e0i : ¬ (i : Int) = 0 := by omega
        have hR8 := hideG (hR2.out.below (bel1 (.cells #[.int .i64 67, .int .i64 (f : Int), .int .i64 (-1), .int .i64 (i : Int)] 70)))
        have ho8 := hideG (hO2.out.trans (Only.of_below (bel1 (.cells #[.int .i64 67, .int .i64 (f : Int), .int .i64 (-1), .int .i64 (i : Int)] 70))))
        have HF := hideG (Has.new wr #[.int .i64 67, .int .i64 (f : Int), .int .i64 (-1), .int .i64 (i : Int)] 70 rfl)
        clear hC2 hR2 hO2 hB2 hE hC hf hF hR1 hB1 ho1
        go_wp2_with fail
        go_ret
        exact sp_gen hR8.out hY ho8.out HF.out
end Go.Proofs.YtjfieclmagbfbaaGreatDoor
