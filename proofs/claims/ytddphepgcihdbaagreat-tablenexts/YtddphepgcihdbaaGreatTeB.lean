import Derived.Test.YtddphepgcihdbaaGreatTeA
import Derived.Test.YtddphepgcihdbaaGreatTbD
namespace Go.Proofs.YtddphepgcihdbaaGreat
open Go.RowKit
set_option linter.unusedVariables false
set_option linter.unusedSimpArgs false

def mkS : List Value := [.int .i64 44, .int .i64 0, .int .i64 0, .int .i64 0, .int .i64 0, .int .i64 0, .int .i64 0, .int .i64 0, .int .i64 0, .int .i64 44, .int .i64 0, .int .i64 0, .int .i64 0, .int .i64 0, .int .i64 0, .int .i64 0, .int .i64 0, .int .i64 0]
def room2 : List Value := [.string ⟨#[114, 111, 111, 109]⟩, .slice none 0 0, .string ⟨#[114, 111, 111, 109]⟩, .slice none 0 0]
/-- A room as it is made. -/
def RoomP (w : World) (t : Tt) (CB : Array Value) (e : Ending) (w' : World) : Prop :=
  ∃ (Ls : List Rm) (g8 cap8 : Nat) (ra : Option Addr) (rcp gS capS gX capX gH capH : Nat), e = .returned (.pointer (some ⟨w.heap.size + 1, 0, none⟩)) ∧ Ls.map (·.x) = t.D ∧ t.D.length ≤ cap8 ∧ t.S.length ≤ capS ∧ t.X.length ≤ capX ∧ t.H.length ≤ capH ∧ RG w w' CB #[.string t.nm, .slice (some ⟨g8, 0, none⟩) t.D.length cap8, .int .i64 t.w0, .int .i64 t.w1, .int .i64 t.w2, .int .i64 t.w3, .int .i64 t.w4, .int .i64 t.w5, .int .i64 t.w6, .slice (some ⟨gS, 0, none⟩) t.S.length capS, .slice (some ⟨gX, 0, none⟩) t.X.length capX, .slice (some ⟨gH, 0, none⟩) t.H.length capH, .slice (some ⟨g8, 0, none⟩) (t.D.length + 2) cap8, .slice ra t.D.length rcp, .slice (some ⟨gS, 0, none⟩) (t.S.length + 2) capS, .slice (some ⟨gX, 0, none⟩) (t.X.length + 2) capX, .slice (some ⟨gH, 0, none⟩) (t.H.length + 2) capH] ((((Ls.map Rm.own ++ [⟨49, 2, .slice (some ⟨g8, 0, none⟩) (t.D.length + 2) cap8, t.D.length + 2, cellsF Rm.dc Ls ++ room2⟩, ⟨47, 1, .slice ra t.D.length rcp, t.D.length, cellsF Rm.rc Ls⟩]) ++ [⟨52, 9, .slice (some ⟨gS, 0, none⟩) (t.S.length + 2) capS, t.S.length + 2, cellsF Sn.cs t.S ++ mkS⟩]) ++ [⟨54, 2, .slice (some ⟨gX, 0, none⟩) (t.X.length + 2) capX, t.X.length + 2, cellsF Ex.cs t.X ++ mk2⟩]) ++ [⟨56, 2, .slice (some ⟨gH, 0, none⟩) (t.H.length + 2) capH, t.H.length + 2, cellsF Sh.cs t.H ++ mk2⟩])
theorem g8_of {w w8 : World} {t : Tt} {CB RC : Array Value} {Ls : List Rm} {g8 cap8 rcp : Nat} {ra : Option Addr} (hT : Ls.take t.D.length = Ls)
    (A : w8.ownsRow (w.heap.size + 2) 47 1 (.slice ra t.D.length rcp) t.D.length (cellsF Rm.rc (Ls.take t.D.length)) ∧ (∀ r ∈ Ls, RIn w8 (w.heap.size + 2) r) ∧ (∀ r ∈ Ls, (Value.slice (some ⟨g8, 0, none⟩) (t.D.length + 2) cap8).ownBlock ≠ some r.g) ∧ (∀ g, (Value.slice (some ⟨g8, 0, none⟩) (t.D.length + 2) cap8).ownBlock = some g → (Value.slice ra t.D.length rcp).ownBlock ≠ some g) ∧ Below w.heap.size w w8 ∧ Has w8 w.heap.size CB ∧ Has w8 (w.heap.size + 1) RC)
    (o8 : w8.ownsRow (w.heap.size + 2) 49 2 (.slice (some ⟨g8, 0, none⟩) (t.D.length + 2) cap8) (t.D.length + 2) (cellsF Rm.dc (Ls.take t.D.length) ++ room2)) (hs : w.heap.size + 2 ≤ w8.heap.size) : RG w w8 CB RC (Ls.map Rm.own ++ [⟨49, 2, .slice (some ⟨g8, 0, none⟩) (t.D.length + 2) cap8, t.D.length + 2, cellsF Rm.dc Ls ++ room2⟩, ⟨47, 1, .slice ra t.D.length rcp, t.D.length, cellsF Rm.rc Ls⟩]) := by
  obtain ⟨a1, a2, _, _, a5, a6, a7⟩ := A
  rw [hT] at a1 o8
  refine ⟨fun y hy => ?_, a5, hs, a6, a7⟩
  rcases List.mem_append.1 hy with h | h
  · obtain ⟨r, hr, rfl⟩ := List.mem_map.1 h
    exact a2 r hr
  · simp only [List.mem_cons, List.not_mem_nil, or_false] at h
    rcases h with rfl | rfl
    · exact o8
    · exact a1
set_option maxRecDepth 100000 in
set_option maxHeartbeats 4000000 in
theorem roomy_any (t : Tt) (aD aS aX aH : Option Addr) (cD cS cX cH : Nat) (w : World) (hR : TR w t (.slice aD t.D.length cD) (.slice aS t.S.length cS) (.slice aX t.X.length cX) (.slice aH t.H.length cH)) : Calls Tryz.prog 4 #[.agg #[.string t.nm, .slice aD t.D.length cD, .int .i64 t.w0, .int .i64 t.w1, .int .i64 t.w2, .int .i64 t.w3, .int .i64 t.w4, .int .i64 t.w5, .int .i64 t.w6, .slice aS t.S.length cS, .slice aX t.X.length cX, .slice aH t.H.length cH]] w fun e w' => RoomP w t #[.string t.nm, .slice aD t.D.length cD, .int .i64 t.w0, .int .i64 t.w1, .int .i64 t.w2, .int .i64 t.w3, .int .i64 t.w4, .int .i64 t.w5, .int .i64 t.w6, .slice aS t.S.length cS, .slice aX t.X.length cX, .slice aH t.H.length cH] e w' := by
  obtain ⟨ti, hti, hti0, hti1, hti2⟩ := info_parts info40
  obtain ⟨tj, htj, htj0, htj1, htj2⟩ := info_parts info36
  obtain ⟨tk, htk, htk0, htk1, htk2⟩ := info_parts info38
  obtain ⟨tl, htl, htl0, htl1, htl2⟩ := info_parts info63
  obtain ⟨tm, htm, htm0, htm1, htm2⟩ := info_parts info65
  obtain ⟨tn, htn, htn0, htn1, htn2⟩ := info_parts info68
  have dl := hR.dl
  have sl := hR.sl
  have xl := hR.xl
  have hl := hR.hl
  have hR' : Hid (TR w t (.slice aD t.D.length cD) (.slice aS t.S.length cS) (.slice aX t.X.length cX) (.slice aH t.H.length cH)) := hR
  clear hR
  go_enter Tryz.func4, Tryz.ntmps4
  go_wp2
  have HY : Has ((w.alloc (.cells #[.string t.nm, .slice aD t.D.length cD, .int .i64 t.w0, .int .i64 t.w1, .int .i64 t.w2, .int .i64 t.w3, .int .i64 t.w4, .int .i64 t.w5, .int .i64 t.w6, .slice aS t.S.length cS, .slice aX t.X.length cX, .slice aH t.H.length cH] 28)).alloc (.cells #[.string t.nm, .slice aD t.D.length cD, .int .i64 t.w0, .int .i64 t.w1, .int .i64 t.w2, .int .i64 t.w3, .int .i64 t.w4, .int .i64 t.w5, .int .i64 t.w6, .slice aS t.S.length cS, .slice aX t.X.length cX, .slice aH t.H.length cH, .slice none 0 0, .slice none 0 0, .slice none 0 0, .slice none 0 0, .slice none 0 0] 36)) w.heap.size #[.string t.nm, .slice aD t.D.length cD, .int .i64 t.w0, .int .i64 t.w1, .int .i64 t.w2, .int .i64 t.w3, .int .i64 t.w4, .int .i64 t.w5, .int .i64 t.w6, .slice aS t.S.length cS, .slice aX t.X.length cX, .slice aH t.H.length cH] := (Has.new _ _ _ rfl).alloc _
  have HQ : Has ((w.alloc (.cells #[.string t.nm, .slice aD t.D.length cD, .int .i64 t.w0, .int .i64 t.w1, .int .i64 t.w2, .int .i64 t.w3, .int .i64 t.w4, .int .i64 t.w5, .int .i64 t.w6, .slice aS t.S.length cS, .slice aX t.X.length cX, .slice aH t.H.length cH] 28)).alloc (.cells #[.string t.nm, .slice aD t.D.length cD, .int .i64 t.w0, .int .i64 t.w1, .int .i64 t.w2, .int .i64 t.w3, .int .i64 t.w4, .int .i64 t.w5, .int .i64 t.w6, .slice aS t.S.length cS, .slice aX t.X.length cX, .slice aH t.H.length cH, .slice none 0 0, .slice none 0 0, .slice none 0 0, .slice none 0 0, .slice none 0 0] 36)) (w.heap.size + 1) #[.string t.nm, .slice aD t.D.length cD, .int .i64 t.w0, .int .i64 t.w1, .int .i64 t.w2, .int .i64 t.w3, .int .i64 t.w4, .int .i64 t.w5, .int .i64 t.w6, .slice aS t.S.length cS, .slice aX t.X.length cX, .slice aH t.H.length cH, .slice none 0 0, .slice none 0 0, .slice none 0 0, .slice none 0 0, .slice none 0 0] := Has.new _ _ _ (by simp)
  have HB : Below w.heap.size w ((w.alloc (.cells #[.string t.nm, .slice aD t.D.length cD, .int .i64 t.w0, .int .i64 t.w1, .int .i64 t.w2, .int .i64 t.w3, .int .i64 t.w4, .int .i64 t.w5, .int .i64 t.w6, .slice aS t.S.length cS, .slice aX t.X.length cX, .slice aH t.H.length cH] 28)).alloc (.cells #[.string t.nm, .slice aD t.D.length cD, .int .i64 t.w0, .int .i64 t.w1, .int .i64 t.w2, .int .i64 t.w3, .int .i64 t.w4, .int .i64 t.w5, .int .i64 t.w6, .slice aS t.S.length cS, .slice aX t.X.length cX, .slice aH t.H.length cH, .slice none 0 0, .slice none 0 0, .slice none 0 0, .slice none 0 0, .slice none 0 0] 36)) := ((Below.refl _ _).alloc (Nat.le_refl _) _).alloc (by simp) _
  have hsz : w.heap.size + 2 ≤ ((w.alloc (.cells #[.string t.nm, .slice aD t.D.length cD, .int .i64 t.w0, .int .i64 t.w1, .int .i64 t.w2, .int .i64 t.w3, .int .i64 t.w4, .int .i64 t.w5, .int .i64 t.w6, .slice aS t.S.length cS, .slice aX t.X.length cX, .slice aH t.H.length cH] 28)).alloc (.cells #[.string t.nm, .slice aD t.D.length cD, .int .i64 t.w0, .int .i64 t.w1, .int .i64 t.w2, .int .i64 t.w3, .int .i64 t.w4, .int .i64 t.w5, .int .i64 t.w6, .slice aS t.S.length cS, .slice aX t.X.length cX, .slice aH t.H.length cH, .slice none 0 0, .slice none 0 0, .slice none 0 0, .slice none 0 0, .slice none 0 0] 36)).heap.size := by simp
  generalize ((w.alloc (.cells #[.string t.nm, .slice aD t.D.length cD, .int .i64 t.w0, .int .i64 t.w1, .int .i64 t.w2, .int .i64 t.w3, .int .i64 t.w4, .int .i64 t.w5, .int .i64 t.w6, .slice aS t.S.length cS, .slice aX t.X.length cX, .slice aH t.H.length cH] 28)).alloc (.cells #[.string t.nm, .slice aD t.D.length cD, .int .i64 t.w0, .int .i64 t.w1, .int .i64 t.w2, .int .i64 t.w3, .int .i64 t.w4, .int .i64 t.w5, .int .i64 t.w6, .slice aS t.S.length cS, .slice aX t.X.length cX, .slice aH t.H.length cH, .slice none 0 0, .slice none 0 0, .slice none 0 0, .slice none 0 0, .slice none 0 0] 36)) = Y at *
  go_loopg [4, 5] t.D.length (fun gk s4 s5 wr => ∃ (k : Nat) (Ls : List Rm) (da : Option Addr) (dcp : Nat) (ra : Option Addr) (rcp : Nat), k + gk = t.D.length ∧ s4 = .int .i64 (k : Int) ∧ Hid (Ls.map (·.x) = t.D.take k) ∧ Hid (w.heap.size + 2 ≤ wr.heap.size) ∧ Hid (RF w wr #[.string t.nm, .slice aD t.D.length cD, .int .i64 t.w0, .int .i64 t.w1, .int .i64 t.w2, .int .i64 t.w3, .int .i64 t.w4, .int .i64 t.w5, .int .i64 t.w6, .slice aS t.S.length cS, .slice aX t.X.length cX, .slice aH t.H.length cH] #[.string t.nm, .slice aD t.D.length cD, .int .i64 t.w0, .int .i64 t.w1, .int .i64 t.w2, .int .i64 t.w3, .int .i64 t.w4, .int .i64 t.w5, .int .i64 t.w6, .slice aS t.S.length cS, .slice aX t.X.length cX, .slice aH t.H.length cH, .slice da k dcp, .slice ra k rcp, .slice none 0 0, .slice none 0 0, .slice none 0 0] Ls (.slice da k dcp) (.slice ra k rcp) k k))
  case atStart => exact ⟨0, [], none, 0, none, 0, by omega, rfl, rfl, hsz, ⟨World.ownsRow_nil _ _ _ _, World.ownsRow_nil _ _ _ _, fun r hr => by simp at hr, fun r hr => by simp at hr, fun r hr => by simp at hr, fun g h => by simp [Value.ownBlock] at h, HB, HY, HQ⟩⟩
  case round =>
    obtain ⟨k, Ls, da, dcp, ra, rcp, hk, rfl, hLs, hz, hF⟩ := hrel
    have hLl : Hid (Ls.length = t.D.length - gk) := by
      show _ = _
      have := congrArg List.length hLs.out
      simp at this; omega
    obtain ⟨_, q, _⟩ := id hF.out.box
    obtain ⟨_, rq, rz⟩ := id hF.out.room
    by_cases hlt : k < t.D.length
    · have hb := hF.out.hb
      obtain ⟨g, o, rfl, hg, P⟩ := (hR'.out.d.ln).resolve_left (by intro e; rw [e] at hlt; simp at hlt)
      have p0 := (hb.cell (p := ⟨g, _, none⟩) hg).trans (P k hlt 0 _ rfl)
      have p1 := (hb.cell (p := ⟨g, _, none⟩) hg).trans (P k hlt 1 _ rfl)
      simp only [Nat.add_zero] at p0
      have t1 : (k : Int) < (t.D.length : Int) := by omega
      have t0 : (0 : Int) ≤ (k : Int) := by omega
      have hfl := (hR'.out.r _ (List.getElem_mem hlt)).below hb
      have lr := hR'.out.rl _ (List.getElem_mem hlt)
      have hdx : Hid (t.D.take (k + 1) = t.D.take k ++ [t.D[k]]) := List.take_succ_eq_append_getElem hlt
      clear P
      generalize t.D[k] = x at *
      obtain ⟨xn, xv, xr⟩ := x
      dsimp only at *
      obtain ⟨fa, fc, rfl, _⟩ := hfl.any
      obtain ⟨s1, s2⟩ := Fl.src rw_len (by decide) hfl
      clear hfl
      go_wp2_with (first
        | (at_builtin; refine wpList_copyv rfl _ _ 47 rfl 50 ti _ 2 16 Tryz.underlying47 hti hti0 hti1 hti2 rfl (by decide) fa xr.length fc (cellsF Rw.cs xr) rfl rfl (cellsF_len rw_len xr) s1 (cellsF_one rw_one xr) s2 (by unfold maxLen; omega) (by omega) ?_; intro a1 c1 w1 o1 hb1)
        | (at_builtin; refine wpList_append_mine _ rfl _ _ 47 rfl wr.heap.size 50 ti _ 2 16 Tryz.underlying47 hti hti0 hti1 hti2 rfl (by decide) (.slice a1 xr.length c1) xr.length (cellsF Rw.cs xr) rfl (own_bel o1 bel1) ⟨w1.heap.size, 0, none⟩ 2 2 mk2 rfl rfl (cells_at (W := w1) rfl _ _) (all_one rfl) (by decide) (by unfold maxLen; omega) (by omega) (by have := hb1.size; simp; omega) ?_; intro g1 cap1 w2 o2 hg2 hat2 hkp2 hcap2; have hB2 : Below wr.heap.size wr w2 := grown_bel (belT hb1 bel1) hg2 (Nat.le_refl _) (fun q hq => (own_lt o1 q hq).1); have RF2 := hF.out.push (by have := hLl.out; omega) hB2 ⟨⟨xn, .slice fa xr.length fc, xr⟩, g1, cap1⟩ o2 hz.out; obtain ⟨_, q2, _⟩ := id RF2.box; obtain ⟨_, rq2, rz2⟩ := id RF2.room)
        | (at_builtin; refine wpList_append_mine _ rfl _ _ 34 rfl (w.heap.size + 2) 47 tj _ 1 24 Tryz.underlying34 htj htj0 htj1 htj2 rfl (by decide) (.slice ra k rcp) k _ rfl (own_bel RF2.ow bel1) ⟨w2.heap.size, 0, none⟩ 1 1 (Rm.rc ⟨⟨xn, .slice fa xr.length fc, xr⟩, g1, cap1⟩) rfl rfl (cells_at (W := w2) rfl _ _) (all_one rfl) (by decide) (by unfold maxLen; omega) (by omega) (by have := hB2.size; have := hz.out; simp; omega) ?_; intro g3 cap3 w3 o3 hg3 hat3 hkp3 hcap3; have RF3 := (RF2.below bel1).appRows ⟨⟨xn, .slice fa xr.length fc, xr⟩, g1, cap1⟩ (snoc_at _ _ _ (by have := hLl.out; omega)) hg3 hat3 o3; obtain ⟨_, q3, _⟩ := id RF3.box; obtain ⟨_, rq3, rz3⟩ := id RF3.room))
      have RF4 := RF3.setRoom 13 (by simp) (.slice (some ⟨g3, 0, none⟩) (k + 1) cap3)
      simp only [List.setIfInBounds_toArray, List.set_cons_succ, List.set_cons_zero] at RF4
      have hzZ : Hid (w.heap.size + 2 ≤ (w3.setCell ⟨w.heap.size + 1, 13, none⟩ (.slice (some ⟨g3, 0, none⟩) (k + 1) cap3)).heap.size) := by
        have a1 := hg3.size; have a2 := hB2.size; have a3 := hz.out
        show _ ≤ _
        simp [World.setCell] at *; omega
      clear RF3 RF2 q q2 q3 rq rq2 rq3 rz rz2 rz3 o1 o2 o3 hg2 hg3 hat2 hat3 hkp2 hkp3 hb1 s1 s2 hF hB2
      generalize (w3.setCell ⟨w.heap.size + 1, 13, none⟩ (.slice (some ⟨g3, 0, none⟩) (k + 1) cap3)) = Z at *
      have y1 := RF4.box.2.1 1
      have y2 := RF4.room.2.1 12
      have y3 : Z.cell? ⟨g, o + k * 2, none⟩ = some (.string xn) := by
        rw [RF4.hb.cell (p := ⟨g, _, none⟩) hg, ← hb.cell (p := ⟨g, _, none⟩) hg]; exact p0
      have x1 : (0 : Int) ≤ (xr.length : Int) := by omega
      have x2 : (xr.length : Int) ≤ (cap1 : Int) := by omega
      have x3 : IntKind.i64.wrap (xr.length : Int) = (xr.length : Int) := wrap64 _ (by omega)
      have x4 : IntKind.i64.wrap ((xr.length : Int) + 2 - 2) = (xr.length : Int) := by rw [wrap64 _ (by omega)]; omega
      refine wp_region_noPanic ?_
      refine wp_region_E (S := fun w' => w'.cell? ⟨w.heap.size + 1, 12, none⟩ = some (.slice da k dcp) ∧ w'.cell? ⟨w.heap.size, 1, none⟩ = some (.slice (some ⟨g, o, none⟩) t.D.length cD) ∧ w'.cell? ⟨g, o + k * 2, none⟩ = some (.string xn)) (E := 21) (by kernel_rfl) ?_ (fun hHeld => ?_)
      · (try dsimp only)
        exact ⟨y2, y1, y3⟩
      refine wpAnyE_take (i := 0) (oi := { dst := some 37, op := Op.move (Operand.tmp 3), type := 29, pos := "law.go:33", after := #[], guard := none }) (v := ?_) rfl (by kernel_rfl) (by kernel_rfl) (by kernel_rfl) (by kernel_rfl) (fun _ _ _ h => h) (Or.inl ⟨by rfl, ?_⟩) (by assumption) ?_
      rotate_left
      · intro wz hSz; (try dsimp only at hSz); go_simp; all_goals (with_reducible rfl)
      (try simp only [Act.put, List.setIfInBounds_toArray, List.set_cons_zero, List.set_cons_succ])
      refine wpAnyE_take (i := 1) (oi := { dst := some 38, op := Op.move (Operand.tmp 3), type := 29, pos := "law.go:33", after := #[], guard := none }) (v := ?_) rfl (by kernel_rfl) (by kernel_rfl) (by kernel_rfl) (by kernel_rfl) (fun _ _ _ h => h) (Or.inl ⟨by rfl, ?_⟩) (by assumption) ?_
      rotate_left
      · intro wz hSz; (try dsimp only at hSz); go_simp; all_goals (with_reducible rfl)
      (try simp only [Act.put, List.setIfInBounds_toArray, List.set_cons_zero, List.set_cons_succ])
      refine wpAnyE_take (i := 2) (oi := { dst := some 39, op := Op.nilCheck (Operand.tmp 38), type := 0, pos := "law.go:33", after := #[{ on := 1, ground := Ground.data }], guard := none }) (v := ?_) rfl (by kernel_rfl) (by kernel_rfl) (by kernel_rfl) (by kernel_rfl) (fun _ _ _ h => h) (Or.inl ⟨by rfl, ?_⟩) (by assumption) ?_
      rotate_left
      · intro wz hSz; (try dsimp only at hSz); go_simp; all_goals (with_reducible rfl)
      (try simp only [Act.put, List.setIfInBounds_toArray, List.set_cons_zero, List.set_cons_succ])
      refine wpAnyE_take (i := 3) (oi := { dst := some 40, op := Op.fieldAddr 36 (Operand.tmp 39) 1, type := 0, pos := "law.go:33", after := #[{ on := 2, ground := Ground.data }], guard := none }) (v := ?_) rfl (by kernel_rfl) (by kernel_rfl) (by kernel_rfl) (by kernel_rfl) (fun _ _ _ h => h) (Or.inl ⟨by rfl, ?_⟩) (by assumption) ?_
      rotate_left
      · intro wz hSz; (try dsimp only at hSz); go_simp; all_goals (with_reducible rfl)
      (try simp only [Act.put, List.setIfInBounds_toArray, List.set_cons_zero, List.set_cons_succ])
      refine wpAnyE_take (i := 4) (oi := { dst := some 41, op := Op.load 22 (Operand.tmp 40), type := 22, pos := "law.go:33", after := #[{ on := 3, ground := Ground.data }], guard := none }) (v := ?_) rfl (by kernel_rfl) (by kernel_rfl) (by kernel_rfl) (by kernel_rfl) (fun _ _ _ h => h) (Or.inl ⟨by rfl, ?_⟩) (by assumption) ?_
      rotate_left
      · intro wz hSz; (try dsimp only at hSz); go_simp; all_goals (with_reducible rfl)
      (try simp only [Act.put, List.setIfInBounds_toArray, List.set_cons_zero, List.set_cons_succ])
      refine wpAnyE_take (i := 5) (oi := { dst := some 42, op := Op.fieldAddr 28 (Operand.tmp 1) 1, type := 0, pos := "law.go:33", after := #[], guard := none }) (v := ?_) rfl (by kernel_rfl) (by kernel_rfl) (by kernel_rfl) (by kernel_rfl) (fun _ _ _ h => h) (Or.inl ⟨by rfl, ?_⟩) (by assumption) ?_
      rotate_left
      · intro wz hSz; (try dsimp only at hSz); go_simp; all_goals (with_reducible rfl)
      (try simp only [Act.put, List.setIfInBounds_toArray, List.set_cons_zero, List.set_cons_succ])
      refine wpAnyE_take (i := 6) (oi := { dst := some 43, op := Op.load 22 (Operand.tmp 42), type := 22, pos := "law.go:33", after := #[{ on := 5, ground := Ground.data }], guard := none }) (v := ?_) rfl (by kernel_rfl) (by kernel_rfl) (by kernel_rfl) (by kernel_rfl) (fun _ _ _ h => h) (Or.inl ⟨by rfl, ?_⟩) (by assumption) ?_
      rotate_left
      · intro wz hSz; (try dsimp only at hSz); go_simp; all_goals (with_reducible rfl)
      (try simp only [Act.put, List.setIfInBounds_toArray, List.set_cons_zero, List.set_cons_succ])
      refine wpAnyE_take (i := 7) (oi := { dst := some 44, op := Op.move (Operand.tmp 4), type := 3, pos := "law.go:33", after := #[], guard := none }) (v := ?_) rfl (by kernel_rfl) (by kernel_rfl) (by kernel_rfl) (by kernel_rfl) (fun _ _ _ h => h) (Or.inl ⟨by rfl, ?_⟩) (by assumption) ?_
      rotate_left
      · intro wz hSz; (try dsimp only at hSz); go_simp; all_goals (with_reducible rfl)
      (try simp only [Act.put, List.setIfInBounds_toArray, List.set_cons_zero, List.set_cons_succ])
      refine wpAnyE_take (i := 8) (oi := { dst := some 45, op := Op.indexAddr 22 (Operand.tmp 43) (Operand.tmp 44), type := 0, pos := "law.go:33", after := #[{ on := 6, ground := Ground.data }, { on := 7, ground := Ground.data }], guard := none }) (v := ?_) rfl (by kernel_rfl) (by kernel_rfl) (by kernel_rfl) (by kernel_rfl) (fun _ _ _ h => h) (Or.inl ⟨by rfl, ?_⟩) (by assumption) ?_
      rotate_left
      · intro wz hSz; (try dsimp only at hSz); go_simp; all_goals (with_reducible rfl)
      (try simp only [Act.put, List.setIfInBounds_toArray, List.set_cons_zero, List.set_cons_succ])
      refine wpAnyE_take (i := 9) (oi := { dst := some 46, op := Op.fieldAddr 49 (Operand.tmp 45) 0, type := 0, pos := "law.go:33", after := #[{ on := 8, ground := Ground.data }], guard := none }) (v := ?_) rfl (by kernel_rfl) (by kernel_rfl) (by kernel_rfl) (by kernel_rfl) (fun _ _ _ h => h) (Or.inl ⟨by rfl, ?_⟩) (by assumption) ?_
      rotate_left
      · intro wz hSz; (try dsimp only at hSz); go_simp; all_goals (with_reducible rfl)
      (try simp only [Act.put, List.setIfInBounds_toArray, List.set_cons_zero, List.set_cons_succ])
      refine wpAnyE_take (i := 10) (oi := { dst := some 47, op := Op.load 9 (Operand.tmp 46), type := 9, pos := "law.go:33", after := #[{ on := 9, ground := Ground.data }], guard := none }) (v := ?_) rfl (by kernel_rfl) (by kernel_rfl) (by kernel_rfl) (by kernel_rfl) (fun _ _ _ h => h) (Or.inl ⟨by rfl, ?_⟩) (by assumption) ?_
      rotate_left
      · intro wz hSz; (try dsimp only at hSz); go_simp; all_goals (with_reducible rfl)
      (try simp only [Act.put, List.setIfInBounds_toArray, List.set_cons_zero, List.set_cons_succ])
      refine wpAnyE_take (i := 11) (oi := { dst := some 48, op := Op.move (Operand.tmp 5), type := 47, pos := "law.go:33", after := #[], guard := none }) (v := ?_) rfl (by kernel_rfl) (by kernel_rfl) (by kernel_rfl) (by kernel_rfl) (fun _ _ _ h => h) (Or.inl ⟨by rfl, ?_⟩) (by assumption) ?_
      rotate_left
      · intro wz hSz; (try dsimp only at hSz); go_simp; all_goals (with_reducible rfl)
      (try simp only [Act.put, List.setIfInBounds_toArray, List.set_cons_zero, List.set_cons_succ])
      refine wpAnyE_take (i := 12) (oi := { dst := some 49, op := Op.move (Operand.tmp 5), type := 47, pos := "law.go:33", after := #[], guard := none }) (v := ?_) rfl (by kernel_rfl) (by kernel_rfl) (by kernel_rfl) (by kernel_rfl) (fun _ _ _ h => h) (Or.inl ⟨by rfl, ?_⟩) (by assumption) ?_
      rotate_left
      · intro wz hSz; (try dsimp only at hSz); go_simp; all_goals (with_reducible rfl)
      (try simp only [Act.put, List.setIfInBounds_toArray, List.set_cons_zero, List.set_cons_succ])
      refine wpAnyE_take (i := 13) (oi := { dst := some 50, op := Op.call { callee := Callee.builtin Builtin.len, args := #[Operand.tmp 49], argTypes := #[47] }, type := 3, pos := "law.go:33", after := #[{ on := 12, ground := Ground.data }], guard := none }) (v := ?_) rfl (by kernel_rfl) (by kernel_rfl) (by kernel_rfl) (by kernel_rfl) (fun _ _ _ h => h) (Or.inl ⟨by rfl, ?_⟩) (by assumption) ?_
      rotate_left
      · intro wz hSz; (try dsimp only at hSz); go_simp; all_goals (with_reducible rfl)
      (try simp only [Act.put, List.setIfInBounds_toArray, List.set_cons_zero, List.set_cons_succ])
      refine wpAnyE_take (i := 14) (oi := { dst := some 51, op := Op.binOp BinOp.sub 3 (Operand.tmp 50) (Operand.const (Value.int IntKind.i64 2)) 3, type := 3, pos := "law.go:33", after := #[{ on := 13, ground := Ground.data }], guard := none }) (v := ?_) rfl (by kernel_rfl) (by kernel_rfl) (by kernel_rfl) (by kernel_rfl) (fun _ _ _ h => h) (Or.inl ⟨by rfl, ?_⟩) (by assumption) ?_
      rotate_left
      · intro wz hSz; (try dsimp only at hSz); go_simp; all_goals (with_reducible rfl)
      (try simp only [Act.put, List.setIfInBounds_toArray, List.set_cons_zero, List.set_cons_succ])
      refine wpAnyE_take (i := 15) (oi := { dst := some 52, op := Op.slice 47 (Operand.tmp 48) none (some (Operand.tmp 51)) none, type := 47, pos := "law.go:33", after := #[{ on := 11, ground := Ground.data }, { on := 14, ground := Ground.data }], guard := none }) (v := ?_) rfl (by kernel_rfl) (by kernel_rfl) (by kernel_rfl) (by kernel_rfl) (fun _ _ _ h => h) (Or.inl ⟨by rfl, ?_⟩) (by assumption) ?_
      rotate_left
      · intro wz hSz; (try dsimp only at hSz); go_simp; all_goals (with_reducible rfl)
      (try simp only [Act.put, List.setIfInBounds_toArray, List.set_cons_zero, List.set_cons_succ])
      refine wpAnyE_take (i := 16) (oi := { dst := some 53, op := Op.build 49 #[(0, Operand.tmp 47), (1, Operand.tmp 52)], type := 49, pos := "law.go:33", after := #[{ on := 10, ground := Ground.data }, { on := 15, ground := Ground.data }], guard := none }) (v := ?_) rfl (by kernel_rfl) (by kernel_rfl) (by kernel_rfl) (by kernel_rfl) (fun _ _ _ h => h) (Or.inl ⟨by rfl, ?_⟩) (by assumption) ?_
      rotate_left
      · intro wz hSz; (try dsimp only at hSz); go_simp; all_goals (with_reducible rfl)
      (try simp only [Act.put, List.setIfInBounds_toArray, List.set_cons_zero, List.set_cons_succ])
      refine wpAnyE_one (i := 17) (o := { dst := some 54, op := Op.buildSlice 22 1 #[(0, Operand.tmp 53)], type := 22, pos := "law.go:33", after := #[{ on := 16, ground := Ground.data }], guard := none }) (by kernel_rfl) rfl (by rfl) (fun K hK => ?_)
      go_simp
      refine hK.out _ _ ?_ (fun hHeld => ?_)
      · (try dsimp only)
        obtain ⟨h1, h2, h3⟩ := hHeld
        exact ⟨(bel1.cell (p := ⟨w.heap.size + 1, _, none⟩) (cell_ltF h1)).trans h1, (bel1.cell (p := ⟨w.heap.size, _, none⟩) (cell_ltF h2)).trans h2, (bel1.cell (p := ⟨g, _, none⟩) (cell_ltF h3)).trans h3⟩
      clear hK K
      (try simp only [Act.put, List.setIfInBounds_toArray, List.set_cons_zero, List.set_cons_succ])
      refine wpAnyE_one (i := 18) (o := { dst := some 55, op := Op.call { callee := Callee.builtin Builtin.append, args := #[Operand.tmp 41, Operand.tmp 54], argTypes := #[22, 22] }, type := 22, pos := "law.go:33", after := #[{ on := 4, ground := Ground.data }, { on := 17, ground := Ground.data }], guard := none }) (by kernel_rfl) rfl (by rfl) (fun K hK => ?_)
      have RF5 := RF4.below (((Below.refl Z.heap.size Z).drew).alloc (Nat.le_refl _) (.cells #[.string xn, .slice (some ⟨g1, 0, none⟩) xr.length cap1] 49))
      refine wp_append_lies _ _ _ 22 rfl (w.heap.size + 2) 49 tk _ 2 40 Tryz.underlying22 htk htk0 htk1 htk2 rfl (by decide) (.slice da k dcp) k _ rfl RF5.od ⟨Z.heap.size, 0, none⟩ 1 1 (Rm.dc ⟨⟨xn, .slice fa xr.length fc, xr⟩, g1, cap1⟩) rfl rfl (cells_at (W := Z.drew) rfl _ _) (all_one rfl) (by decide) (by unfold maxLen; omega) (by omega) (by have := hzZ.out; simp; omega) _ rfl ?_
      intro g5 cap5 w5 o5 hg5 hat5 hlt5
      have RF6 := RF5.appDay1 ⟨⟨xn, .slice fa xr.length fc, xr⟩, g1, cap1⟩ (snoc_at _ _ _ (by have := hLl.out; omega)) hg5 (hat5.imp id (fun e => by rw [e]; exact Nat.le_refl _)) o5
      have hz5 : Hid (w.heap.size + 2 ≤ w5.heap.size) := by have a1 := hg5.size; have a2 := hzZ.out; show _ ≤ _; simp at a1; omega
      refine hK.out _ _ ⟨RF6.room.2.1 12, RF6.box.2.1 1, by rw [RF6.hb.cell (p := ⟨g, _, none⟩) hg, ← hb.cell (p := ⟨g, _, none⟩) hg]; exact p0⟩ (fun hHeld => ?_)
      clear hK K
      (try simp only [Act.put, List.setIfInBounds_toArray, List.set_cons_zero, List.set_cons_succ])
      refine wpAnyE_one (i := 19) (o := { dst := some 56, op := Op.nilCheck (Operand.tmp 37), type := 0, pos := "law.go:33", after := #[{ on := 0, ground := Ground.data }, { on := 0, ground := Ground.phase }, { on := 1, ground := Ground.phase }, { on := 2, ground := Ground.phase }, { on := 3, ground := Ground.phase }, { on := 4, ground := Ground.phase }, { on := 5, ground := Ground.phase }, { on := 6, ground := Ground.phase }, { on := 7, ground := Ground.phase }, { on := 8, ground := Ground.phase }, { on := 9, ground := Ground.phase }, { on := 10, ground := Ground.phase }, { on := 11, ground := Ground.phase }, { on := 12, ground := Ground.phase }, { on := 13, ground := Ground.phase }, { on := 14, ground := Ground.phase }, { on := 15, ground := Ground.phase }, { on := 16, ground := Ground.phase }, { on := 17, ground := Ground.phase }, { on := 18, ground := Ground.phase }], guard := none }) (by kernel_rfl) rfl (by rfl) (fun K hK => ?_)
      go_simp
      refine hK.out _ _ hHeld (fun hHeld => ?_)
      clear hK K
      (try simp only [Act.put, List.setIfInBounds_toArray, List.set_cons_zero, List.set_cons_succ])
      refine wpAnyE_take (i := 20) (oi := { dst := some 57, op := Op.fieldAddr 36 (Operand.tmp 56) 1, type := 0, pos := "law.go:33", after := #[{ on := 19, ground := Ground.data }, { on := 0, ground := Ground.phase }, { on := 1, ground := Ground.phase }, { on := 2, ground := Ground.phase }, { on := 3, ground := Ground.phase }, { on := 4, ground := Ground.phase }, { on := 5, ground := Ground.phase }, { on := 6, ground := Ground.phase }, { on := 7, ground := Ground.phase }, { on := 8, ground := Ground.phase }, { on := 9, ground := Ground.phase }, { on := 10, ground := Ground.phase }, { on := 11, ground := Ground.phase }, { on := 12, ground := Ground.phase }, { on := 13, ground := Ground.phase }, { on := 14, ground := Ground.phase }, { on := 15, ground := Ground.phase }, { on := 16, ground := Ground.phase }, { on := 17, ground := Ground.phase }, { on := 18, ground := Ground.phase }], guard := none }) (v := ?_) rfl (by kernel_rfl) (by kernel_rfl) (by kernel_rfl) (by kernel_rfl) (fun _ _ _ h => h) (Or.inl ⟨by rfl, ?_⟩) (by assumption) ?_
      rotate_left
      · intro wz hSz; (try dsimp only at hSz); go_simp; all_goals (with_reducible rfl)
      (try simp only [Act.put, List.setIfInBounds_toArray, List.set_cons_zero, List.set_cons_succ])
      refine wpAnyE_last (o := { dst := none, op := Op.store 22 (Operand.tmp 57) (Operand.tmp 55), type := 0, pos := "law.go:33", after := #[{ on := 20, ground := Ground.data }, { on := 18, ground := Ground.data }, { on := 18, ground := Ground.chain }, { on := 0, ground := Ground.phase }, { on := 1, ground := Ground.phase }, { on := 2, ground := Ground.phase }, { on := 3, ground := Ground.phase }, { on := 4, ground := Ground.phase }, { on := 5, ground := Ground.phase }, { on := 6, ground := Ground.phase }, { on := 7, ground := Ground.phase }, { on := 8, ground := Ground.phase }, { on := 9, ground := Ground.phase }, { on := 10, ground := Ground.phase }, { on := 11, ground := Ground.phase }, { on := 12, ground := Ground.phase }, { on := 13, ground := Ground.phase }, { on := 14, ground := Ground.phase }, { on := 15, ground := Ground.phase }, { on := 16, ground := Ground.phase }, { on := 17, ground := Ground.phase }, { on := 18, ground := Ground.phase }], guard := none }) (by kernel_rfl) rfl (by kernel_rfl) (by rfl) (fun K hK => ?_)
      obtain ⟨_, rq6, rz6⟩ := id RF6.room
      go_simp
      refine hK _ _ ?_
      refine NoPanic.normal ?_
      have RF7 := RF6.setRoom 12 (by simp) (.slice (some ⟨g5, 0, none⟩) (k + 1) cap5)
      simp only [List.setIfInBounds_toArray, List.set_cons_succ, List.set_cons_zero] at RF7
      have hz7 : Hid (w.heap.size + 2 ≤ (w5.setCell ⟨w.heap.size + 1, 12, none⟩ (.slice (some ⟨g5, 0, none⟩) (k + 1) cap5)).heap.size) := by have := hz5.out; show _ ≤ _; simpa [World.setCell] using this
      have hL7 : Hid ((Ls ++ [(⟨⟨xn, .slice fa xr.length fc, xr⟩, g1, cap1⟩ : Rm)]).map (·.x) = t.D.take (k + 1)) := by show _ = _; rw [hdx.out, List.map_append, hLs.out]; rfl
      go_wp2_with fail
      go_roundg (gk - 1)
      case measure => go_light; omega
      case rel => exact ⟨k + 1, _, _, _, _, _, by omega, by go_num, hL7, hz7, RF7⟩
    · obtain rfl : k = t.D.length := by omega
      have t1 : ¬ (t.D.length : Int) < (t.D.length : Int) := by omega
      have hLe : Hid (Ls.map (·.x) = t.D) := by show _ = _; rw [hLs.out, List.take_length]
      have hTk : Hid (Ls.take t.D.length = Ls) := by
        have h9 := congrArg List.length hLe.out
        rw [List.length_map] at h9
        exact List.take_of_length_le (Nat.le_of_eq h9)
      go_wp2_with (first
        | (at_builtin; refine wpList_append_mine _ rfl _ _ 22 rfl (w.heap.size + 2) 49 tk _ 2 40 Tryz.underlying22 htk htk0 htk1 htk2 rfl (by decide) (.slice da t.D.length dcp) t.D.length _ rfl (own_bel hF.out.od bel1) ⟨wr.heap.size, 0, none⟩ 2 2 room2 rfl rfl (cells_at (W := wr) rfl _ _) (all_one rfl) (by decide) (by unfold maxLen; omega) (by omega) (by have := hz.out; simp; omega) ?_; intro g8 cap8 w8 o8 hg8 hat8 hkp8 hcap8; have A8 := (hF.out.below bel1).appDays hg8 hat8 o8; have G8 := g8_of hTk.out A8 o8 (Nat.le_trans hz.out (Nat.le_trans (by simp) hg8.size)); obtain ⟨_, q8, _⟩ := id G8.box; obtain ⟨_, rq8, rz8⟩ := id G8.room)
        | (at_builtin; have P1 := G8.setRoom 12 (by simp) (.slice (some ⟨g8, 0, none⟩) (t.D.length + 2) cap8); simp only [List.setIfInBounds_toArray, List.set_cons_succ, List.set_cons_zero] at P1; obtain ⟨s1, s2⟩ := Fl.src sn_len (by decide) (hR'.out.s.below P1.hb); refine wpList_copyv rfl _ _ 24 rfl 52 tl _ 9 72 Tryz.underlying24 htl htl0 htl1 htl2 rfl (by decide) aS t.S.length cS (cellsF Sn.cs t.S) rfl rfl (cellsF_len sn_len t.S) s1 (cellsF_one sn_one t.S) s2 (by unfold maxLen; omega) (by omega) ?_; intro aS1 cS1 wS1 oS1 hbS1; clear s1 s2)
        | (at_builtin; have GS := P1.below hbS1; refine wpList_append_mine _ rfl _ _ 24 rfl (w.heap.size + 2) 52 tl _ 9 72 Tryz.underlying24 htl htl0 htl1 htl2 rfl (by decide) (.slice aS1 t.S.length cS1) t.S.length (cellsF Sn.cs t.S) rfl (own_bel (own_mono oS1 P1.sz) bel1) ⟨wS1.heap.size, 0, none⟩ 2 2 mkS rfl rfl (cells_at (W := wS1) rfl _ _) (all_one rfl) (by decide) (by unfold maxLen; omega) (by omega) (by have := GS.sz; simp; omega) ?_; intro gS capS vS pS hgS hatS hkpS hcapS; have G9 := (RG.grown2 P1 (GS.below bel1) hgS (fun q hq => (own_lt oS1 q hq).1)).add ⟨52, 9, .slice (some ⟨gS, 0, none⟩) (t.S.length + 2) capS, t.S.length + 2, cellsF Sn.cs t.S ++ mkS⟩ pS; obtain ⟨_, qG9, _⟩ := id G9.box; obtain ⟨_, rqG9, rzG9⟩ := id G9.room)
        | (at_builtin; have P2 := G9.setRoom 14 (by simp) (.slice (some ⟨gS, 0, none⟩) (t.S.length + 2) capS); simp only [List.setIfInBounds_toArray, List.set_cons_succ, List.set_cons_zero] at P2; obtain ⟨s1, s2⟩ := Fl.src ex_len (by decide) (hR'.out.x.below P2.hb); refine wpList_copyv rfl _ _ 25 rfl 54 tm _ 2 16 Tryz.underlying25 htm htm0 htm1 htm2 rfl (by decide) aX t.X.length cX (cellsF Ex.cs t.X) rfl rfl (cellsF_len ex_len t.X) s1 (cellsF_one ex_one t.X) s2 (by unfold maxLen; omega) (by omega) ?_; intro aX1 cX1 wX1 oX1 hbX1; clear s1 s2)
        | (at_builtin; have GX := P2.below hbX1; refine wpList_append_mine _ rfl _ _ 25 rfl (w.heap.size + 2) 54 tm _ 2 16 Tryz.underlying25 htm htm0 htm1 htm2 rfl (by decide) (.slice aX1 t.X.length cX1) t.X.length (cellsF Ex.cs t.X) rfl (own_bel (own_mono oX1 P2.sz) bel1) ⟨wX1.heap.size, 0, none⟩ 2 2 mk2 rfl rfl (cells_at (W := wX1) rfl _ _) (all_one rfl) (by decide) (by unfold maxLen; omega) (by omega) (by have := GX.sz; simp; omega) ?_; intro gX capX vX pX hgX hatX hkpX hcapX; have G10 := (RG.grown2 P2 (GX.below bel1) hgX (fun q hq => (own_lt oX1 q hq).1)).add ⟨54, 2, .slice (some ⟨gX, 0, none⟩) (t.X.length + 2) capX, t.X.length + 2, cellsF Ex.cs t.X ++ mk2⟩ pX; obtain ⟨_, qG10, _⟩ := id G10.box; obtain ⟨_, rqG10, rzG10⟩ := id G10.room)
        | (at_builtin; have P3 := G10.setRoom 15 (by simp) (.slice (some ⟨gX, 0, none⟩) (t.X.length + 2) capX); simp only [List.setIfInBounds_toArray, List.set_cons_succ, List.set_cons_zero] at P3; obtain ⟨s1, s2⟩ := Fl.src sh_len (by decide) (hR'.out.h.below P3.hb); refine wpList_copyv rfl _ _ 26 rfl 56 tn _ 2 16 Tryz.underlying26 htn htn0 htn1 htn2 rfl (by decide) aH t.H.length cH (cellsF Sh.cs t.H) rfl rfl (cellsF_len sh_len t.H) s1 (cellsF_one sh_one t.H) s2 (by unfold maxLen; omega) (by omega) ?_; intro aH1 cH1 wH1 oH1 hbH1; clear s1 s2)
        | (at_builtin; have GH := P3.below hbH1; refine wpList_append_mine _ rfl _ _ 26 rfl (w.heap.size + 2) 56 tn _ 2 16 Tryz.underlying26 htn htn0 htn1 htn2 rfl (by decide) (.slice aH1 t.H.length cH1) t.H.length (cellsF Sh.cs t.H) rfl (own_bel (own_mono oH1 P3.sz) bel1) ⟨wH1.heap.size, 0, none⟩ 2 2 mk2 rfl rfl (cells_at (W := wH1) rfl _ _) (all_one rfl) (by decide) (by unfold maxLen; omega) (by omega) (by have := GH.sz; simp; omega) ?_; intro gH capH vH pH hgH hatH hkpH hcapH; have G11 := (RG.grown2 P3 (GH.below bel1) hgH (fun q hq => (own_lt oH1 q hq).1)).add ⟨56, 2, .slice (some ⟨gH, 0, none⟩) (t.H.length + 2) capH, t.H.length + 2, cellsF Sh.cs t.H ++ mk2⟩ pH; obtain ⟨_, qG11, _⟩ := id G11.box; obtain ⟨_, rqG11, rzG11⟩ := id G11.room))
      have P4 := G11.setRoom 16 (by simp) (.slice (some ⟨gH, 0, none⟩) (t.H.length + 2) capH)
      simp only [List.setIfInBounds_toArray, List.set_cons_succ, List.set_cons_zero] at P4
      have z1 : (t.D.length : Int) ≤ (cap8 : Int) := by omega
      have z2 : (t.S.length : Int) ≤ (capS : Int) := by omega
      have z3 : (t.X.length : Int) ≤ (capX : Int) := by omega
      have z4 : (t.H.length : Int) ≤ (capH : Int) := by omega
      have y1 : (0 : Int) ≤ (t.D.length : Int) := by omega
      have y2 : (0 : Int) ≤ (t.S.length : Int) := by omega
      have y3 : (0 : Int) ≤ (t.X.length : Int) := by omega
      have y4 : (0 : Int) ≤ (t.H.length : Int) := by omega
      clear G8 G9 G10 G11 P1 P2 P3 GS GX GH A8 q8 rq8 rz8 qG9 rqG9 rzG9 qG10 rqG10 rzG10 qG11 rqG11 rzG11 hg8 hat8 hkp8 o8 hgS hatS hkpS pS hgX hatX hkpX pX hgH hatH hkpH pH oS1 oX1 oH1 hbS1 hbX1 hbH1 q rq rz hF
      generalize (vH.setCell ⟨w.heap.size + 1, 16, none⟩ (.slice (some ⟨gH, 0, none⟩) (t.H.length + 2) capH)) = Z at *
      refine wp_region_noPanic ?_
      refine wp_region_E (S := fun w' => w'.cell? ⟨w.heap.size + 1, 12, none⟩ = some (.slice (some ⟨g8, 0, none⟩) (t.D.length + 2) cap8) ∧ w'.cell? ⟨w.heap.size, 1, none⟩ = some (.slice aD t.D.length cD)) (E := 12) (by kernel_rfl) ?_ (fun hHeld => ?_)
      · (try dsimp only)
        exact ⟨P4.room.2.1 12, P4.box.2.1 1⟩
      refine wpAnyE_take (i := 0) (oi := { dst := some 99, op := Op.move (Operand.tmp 3), type := 29, pos := "law.go:39", after := #[], guard := none }) (v := ?_) rfl (by kernel_rfl) (by kernel_rfl) (by kernel_rfl) (by kernel_rfl) (fun _ _ _ h => h) (Or.inl ⟨by rfl, ?_⟩) (by assumption) ?_
      rotate_left
      · intro wz hSz; (try dsimp only at hSz); go_simp; all_goals (with_reducible rfl)
      (try simp only [Act.put, List.setIfInBounds_toArray, List.set_cons_zero, List.set_cons_succ])
      refine wpAnyE_take (i := 1) (oi := { dst := some 100, op := Op.move (Operand.tmp 3), type := 29, pos := "law.go:39", after := #[], guard := none }) (v := ?_) rfl (by kernel_rfl) (by kernel_rfl) (by kernel_rfl) (by kernel_rfl) (fun _ _ _ h => h) (Or.inl ⟨by rfl, ?_⟩) (by assumption) ?_
      rotate_left
      · intro wz hSz; (try dsimp only at hSz); go_simp; all_goals (with_reducible rfl)
      (try simp only [Act.put, List.setIfInBounds_toArray, List.set_cons_zero, List.set_cons_succ])
      refine wpAnyE_take (i := 2) (oi := { dst := some 101, op := Op.nilCheck (Operand.tmp 100), type := 0, pos := "law.go:39", after := #[{ on := 1, ground := Ground.data }], guard := none }) (v := ?_) rfl (by kernel_rfl) (by kernel_rfl) (by kernel_rfl) (by kernel_rfl) (fun _ _ _ h => h) (Or.inl ⟨by rfl, ?_⟩) (by assumption) ?_
      rotate_left
      · intro wz hSz; (try dsimp only at hSz); go_simp; all_goals (with_reducible rfl)
      (try simp only [Act.put, List.setIfInBounds_toArray, List.set_cons_zero, List.set_cons_succ])
      refine wpAnyE_take (i := 3) (oi := { dst := some 102, op := Op.fieldAddr 36 (Operand.tmp 101) 1, type := 0, pos := "law.go:39", after := #[{ on := 2, ground := Ground.data }], guard := none }) (v := ?_) rfl (by kernel_rfl) (by kernel_rfl) (by kernel_rfl) (by kernel_rfl) (fun _ _ _ h => h) (Or.inl ⟨by rfl, ?_⟩) (by assumption) ?_
      rotate_left
      · intro wz hSz; (try dsimp only at hSz); go_simp; all_goals (with_reducible rfl)
      (try simp only [Act.put, List.setIfInBounds_toArray, List.set_cons_zero, List.set_cons_succ])
      refine wpAnyE_take (i := 4) (oi := { dst := some 103, op := Op.load 22 (Operand.tmp 102), type := 22, pos := "law.go:39", after := #[{ on := 3, ground := Ground.data }], guard := none }) (v := ?_) rfl (by kernel_rfl) (by kernel_rfl) (by kernel_rfl) (by kernel_rfl) (fun _ _ _ h => h) (Or.inl ⟨by rfl, ?_⟩) (by assumption) ?_
      rotate_left
      · intro wz hSz; (try dsimp only at hSz); go_simp; all_goals (with_reducible rfl)
      (try simp only [Act.put, List.setIfInBounds_toArray, List.set_cons_zero, List.set_cons_succ])
      refine wpAnyE_take (i := 5) (oi := { dst := some 104, op := Op.fieldAddr 28 (Operand.tmp 1) 1, type := 0, pos := "law.go:39", after := #[], guard := none }) (v := ?_) rfl (by kernel_rfl) (by kernel_rfl) (by kernel_rfl) (by kernel_rfl) (fun _ _ _ h => h) (Or.inl ⟨by rfl, ?_⟩) (by assumption) ?_
      rotate_left
      · intro wz hSz; (try dsimp only at hSz); go_simp; all_goals (with_reducible rfl)
      (try simp only [Act.put, List.setIfInBounds_toArray, List.set_cons_zero, List.set_cons_succ])
      refine wpAnyE_take (i := 6) (oi := { dst := some 105, op := Op.load 22 (Operand.tmp 104), type := 22, pos := "law.go:39", after := #[{ on := 5, ground := Ground.data }], guard := none }) (v := ?_) rfl (by kernel_rfl) (by kernel_rfl) (by kernel_rfl) (by kernel_rfl) (fun _ _ _ h => h) (Or.inl ⟨by rfl, ?_⟩) (by assumption) ?_
      rotate_left
      · intro wz hSz; (try dsimp only at hSz); go_simp; all_goals (with_reducible rfl)
      (try simp only [Act.put, List.setIfInBounds_toArray, List.set_cons_zero, List.set_cons_succ])
      refine wpAnyE_take (i := 7) (oi := { dst := some 106, op := Op.call { callee := Callee.builtin Builtin.len, args := #[Operand.tmp 105], argTypes := #[22] }, type := 3, pos := "law.go:39", after := #[{ on := 6, ground := Ground.data }], guard := none }) (v := ?_) rfl (by kernel_rfl) (by kernel_rfl) (by kernel_rfl) (by kernel_rfl) (fun _ _ _ h => h) (Or.inl ⟨by rfl, ?_⟩) (by assumption) ?_
      rotate_left
      · intro wz hSz; (try dsimp only at hSz); go_simp; all_goals (with_reducible rfl)
      (try simp only [Act.put, List.setIfInBounds_toArray, List.set_cons_zero, List.set_cons_succ])
      refine wpAnyE_take (i := 8) (oi := { dst := some 107, op := Op.slice 22 (Operand.tmp 103) none (some (Operand.tmp 106)) none, type := 22, pos := "law.go:39", after := #[{ on := 4, ground := Ground.data }, { on := 7, ground := Ground.data }], guard := none }) (v := ?_) rfl (by kernel_rfl) (by kernel_rfl) (by kernel_rfl) (by kernel_rfl) (fun _ _ _ h => h) (Or.inl ⟨by rfl, ?_⟩) (by assumption) ?_
      rotate_left
      · intro wz hSz; (try dsimp only at hSz); go_simp; all_goals (with_reducible rfl)
      (try simp only [Act.put, List.setIfInBounds_toArray, List.set_cons_zero, List.set_cons_succ])
      refine wpAnyE_one (i := 9) (o := { dst := some 108, op := Op.nilCheck (Operand.tmp 99), type := 0, pos := "law.go:39", after := #[{ on := 0, ground := Ground.data }, { on := 0, ground := Ground.phase }, { on := 1, ground := Ground.phase }, { on := 2, ground := Ground.phase }, { on := 3, ground := Ground.phase }, { on := 4, ground := Ground.phase }, { on := 5, ground := Ground.phase }, { on := 6, ground := Ground.phase }, { on := 7, ground := Ground.phase }, { on := 8, ground := Ground.phase }], guard := none }) (by kernel_rfl) rfl (by rfl) (fun K hK => ?_)
      go_simp
      refine hK.out _ _ hHeld (fun hHeld => ?_)
      clear hK K
      (try simp only [Act.put, List.setIfInBounds_toArray, List.set_cons_zero, List.set_cons_succ])
      refine wpAnyE_one (i := 10) (o := { dst := some 109, op := Op.fieldAddr 36 (Operand.tmp 108) 0, type := 0, pos := "law.go:39", after := #[{ on := 9, ground := Ground.data }, { on := 0, ground := Ground.phase }, { on := 1, ground := Ground.phase }, { on := 2, ground := Ground.phase }, { on := 3, ground := Ground.phase }, { on := 4, ground := Ground.phase }, { on := 5, ground := Ground.phase }, { on := 6, ground := Ground.phase }, { on := 7, ground := Ground.phase }, { on := 8, ground := Ground.phase }], guard := none }) (by kernel_rfl) rfl (by rfl) (fun K hK => ?_)
      go_simp
      refine hK.out _ _ hHeld (fun hHeld => ?_)
      clear hK K
      (try simp only [Act.put, List.setIfInBounds_toArray, List.set_cons_zero, List.set_cons_succ])
      refine wpAnyE_take (i := 11) (oi := { dst := some 110, op := Op.fieldAddr 28 (Operand.tmp 109) 1, type := 0, pos := "law.go:39", after := #[{ on := 10, ground := Ground.data }, { on := 0, ground := Ground.phase }, { on := 1, ground := Ground.phase }, { on := 2, ground := Ground.phase }, { on := 3, ground := Ground.phase }, { on := 4, ground := Ground.phase }, { on := 5, ground := Ground.phase }, { on := 6, ground := Ground.phase }, { on := 7, ground := Ground.phase }, { on := 8, ground := Ground.phase }], guard := none }) (v := ?_) rfl (by kernel_rfl) (by kernel_rfl) (by kernel_rfl) (by kernel_rfl) (fun _ _ _ h => h) (Or.inl ⟨by rfl, ?_⟩) (by assumption) ?_
      rotate_left
      · intro wz hSz; (try dsimp only at hSz); go_simp; all_goals (with_reducible rfl)
      (try simp only [Act.put, List.setIfInBounds_toArray, List.set_cons_zero, List.set_cons_succ])
      refine wpAnyE_last (o := { dst := none, op := Op.store 22 (Operand.tmp 110) (Operand.tmp 107), type := 0, pos := "law.go:39", after := #[{ on := 11, ground := Ground.data }, { on := 8, ground := Ground.data }, { on := 0, ground := Ground.phase }, { on := 1, ground := Ground.phase }, { on := 2, ground := Ground.phase }, { on := 3, ground := Ground.phase }, { on := 4, ground := Ground.phase }, { on := 5, ground := Ground.phase }, { on := 6, ground := Ground.phase }, { on := 7, ground := Ground.phase }, { on := 8, ground := Ground.phase }], guard := none }) (by kernel_rfl) rfl (by kernel_rfl) (by rfl) (fun K hK => ?_)
      have xD12 : Z.drew.cell? ⟨w.heap.size + 1, 1, none⟩ = some _ := P4.room.2.1 1
      have zD12 : Z.drew.frozen? ⟨w.heap.size + 1, 1, none⟩ = false := P4.room.2.2 1
      go_simp
      refine hK _ _ ?_
      refine NoPanic.normal ?_
      have P5 := (P4.setRoom 1 (by simp) (.slice (some ⟨g8, 0, none⟩) t.D.length cap8)).below ((Below.refl _ _).drew)
      simp only [List.setIfInBounds_toArray, List.set_cons_succ, List.set_cons_zero] at P5
      clear xD12 zD12 hHeld hK K P4
      generalize (World.setCell Z ⟨w.heap.size + 1, 1, none⟩ (.slice (some ⟨g8, 0, none⟩) t.D.length cap8)).drew = Z at *
      go_wp2_with fail
      refine wp_region_noPanic ?_
      refine wp_region_E (S := fun w' => w'.cell? ⟨w.heap.size + 1, 14, none⟩ = some (.slice (some ⟨gS, 0, none⟩) (t.S.length + 2) capS) ∧ w'.cell? ⟨w.heap.size, 9, none⟩ = some (.slice aS t.S.length cS)) (E := 12) (by kernel_rfl) ?_ (fun hHeld => ?_)
      · (try dsimp only)
        exact ⟨P5.room.2.1 14, P5.box.2.1 9⟩
      refine wpAnyE_take (i := 0) (oi := { dst := some 111, op := Op.move (Operand.tmp 3), type := 29, pos := "law.go:40", after := #[], guard := none }) (v := ?_) rfl (by kernel_rfl) (by kernel_rfl) (by kernel_rfl) (by kernel_rfl) (fun _ _ _ h => h) (Or.inl ⟨by rfl, ?_⟩) (by assumption) ?_
      rotate_left
      · intro wz hSz; (try dsimp only at hSz); go_simp; all_goals (with_reducible rfl)
      (try simp only [Act.put, List.setIfInBounds_toArray, List.set_cons_zero, List.set_cons_succ])
      refine wpAnyE_take (i := 1) (oi := { dst := some 112, op := Op.move (Operand.tmp 3), type := 29, pos := "law.go:40", after := #[], guard := none }) (v := ?_) rfl (by kernel_rfl) (by kernel_rfl) (by kernel_rfl) (by kernel_rfl) (fun _ _ _ h => h) (Or.inl ⟨by rfl, ?_⟩) (by assumption) ?_
      rotate_left
      · intro wz hSz; (try dsimp only at hSz); go_simp; all_goals (with_reducible rfl)
      (try simp only [Act.put, List.setIfInBounds_toArray, List.set_cons_zero, List.set_cons_succ])
      refine wpAnyE_take (i := 2) (oi := { dst := some 113, op := Op.nilCheck (Operand.tmp 112), type := 0, pos := "law.go:40", after := #[{ on := 1, ground := Ground.data }], guard := none }) (v := ?_) rfl (by kernel_rfl) (by kernel_rfl) (by kernel_rfl) (by kernel_rfl) (fun _ _ _ h => h) (Or.inl ⟨by rfl, ?_⟩) (by assumption) ?_
      rotate_left
      · intro wz hSz; (try dsimp only at hSz); go_simp; all_goals (with_reducible rfl)
      (try simp only [Act.put, List.setIfInBounds_toArray, List.set_cons_zero, List.set_cons_succ])
      refine wpAnyE_take (i := 3) (oi := { dst := some 114, op := Op.fieldAddr 36 (Operand.tmp 113) 3, type := 0, pos := "law.go:40", after := #[{ on := 2, ground := Ground.data }], guard := none }) (v := ?_) rfl (by kernel_rfl) (by kernel_rfl) (by kernel_rfl) (by kernel_rfl) (fun _ _ _ h => h) (Or.inl ⟨by rfl, ?_⟩) (by assumption) ?_
      rotate_left
      · intro wz hSz; (try dsimp only at hSz); go_simp; all_goals (with_reducible rfl)
      (try simp only [Act.put, List.setIfInBounds_toArray, List.set_cons_zero, List.set_cons_succ])
      refine wpAnyE_take (i := 4) (oi := { dst := some 115, op := Op.load 24 (Operand.tmp 114), type := 24, pos := "law.go:40", after := #[{ on := 3, ground := Ground.data }], guard := none }) (v := ?_) rfl (by kernel_rfl) (by kernel_rfl) (by kernel_rfl) (by kernel_rfl) (fun _ _ _ h => h) (Or.inl ⟨by rfl, ?_⟩) (by assumption) ?_
      rotate_left
      · intro wz hSz; (try dsimp only at hSz); go_simp; all_goals (with_reducible rfl)
      (try simp only [Act.put, List.setIfInBounds_toArray, List.set_cons_zero, List.set_cons_succ])
      refine wpAnyE_take (i := 5) (oi := { dst := some 116, op := Op.fieldAddr 28 (Operand.tmp 1) 3, type := 0, pos := "law.go:40", after := #[], guard := none }) (v := ?_) rfl (by kernel_rfl) (by kernel_rfl) (by kernel_rfl) (by kernel_rfl) (fun _ _ _ h => h) (Or.inl ⟨by rfl, ?_⟩) (by assumption) ?_
      rotate_left
      · intro wz hSz; (try dsimp only at hSz); go_simp; all_goals (with_reducible rfl)
      (try simp only [Act.put, List.setIfInBounds_toArray, List.set_cons_zero, List.set_cons_succ])
      refine wpAnyE_take (i := 6) (oi := { dst := some 117, op := Op.load 24 (Operand.tmp 116), type := 24, pos := "law.go:40", after := #[{ on := 5, ground := Ground.data }], guard := none }) (v := ?_) rfl (by kernel_rfl) (by kernel_rfl) (by kernel_rfl) (by kernel_rfl) (fun _ _ _ h => h) (Or.inl ⟨by rfl, ?_⟩) (by assumption) ?_
      rotate_left
      · intro wz hSz; (try dsimp only at hSz); go_simp; all_goals (with_reducible rfl)
      (try simp only [Act.put, List.setIfInBounds_toArray, List.set_cons_zero, List.set_cons_succ])
      refine wpAnyE_take (i := 7) (oi := { dst := some 118, op := Op.call { callee := Callee.builtin Builtin.len, args := #[Operand.tmp 117], argTypes := #[24] }, type := 3, pos := "law.go:40", after := #[{ on := 6, ground := Ground.data }], guard := none }) (v := ?_) rfl (by kernel_rfl) (by kernel_rfl) (by kernel_rfl) (by kernel_rfl) (fun _ _ _ h => h) (Or.inl ⟨by rfl, ?_⟩) (by assumption) ?_
      rotate_left
      · intro wz hSz; (try dsimp only at hSz); go_simp; all_goals (with_reducible rfl)
      (try simp only [Act.put, List.setIfInBounds_toArray, List.set_cons_zero, List.set_cons_succ])
      refine wpAnyE_take (i := 8) (oi := { dst := some 119, op := Op.slice 24 (Operand.tmp 115) none (some (Operand.tmp 118)) none, type := 24, pos := "law.go:40", after := #[{ on := 4, ground := Ground.data }, { on := 7, ground := Ground.data }], guard := none }) (v := ?_) rfl (by kernel_rfl) (by kernel_rfl) (by kernel_rfl) (by kernel_rfl) (fun _ _ _ h => h) (Or.inl ⟨by rfl, ?_⟩) (by assumption) ?_
      rotate_left
      · intro wz hSz; (try dsimp only at hSz); go_simp; all_goals (with_reducible rfl)
      (try simp only [Act.put, List.setIfInBounds_toArray, List.set_cons_zero, List.set_cons_succ])
      refine wpAnyE_one (i := 9) (o := { dst := some 120, op := Op.nilCheck (Operand.tmp 111), type := 0, pos := "law.go:40", after := #[{ on := 0, ground := Ground.data }, { on := 0, ground := Ground.phase }, { on := 1, ground := Ground.phase }, { on := 2, ground := Ground.phase }, { on := 3, ground := Ground.phase }, { on := 4, ground := Ground.phase }, { on := 5, ground := Ground.phase }, { on := 6, ground := Ground.phase }, { on := 7, ground := Ground.phase }, { on := 8, ground := Ground.phase }], guard := none }) (by kernel_rfl) rfl (by rfl) (fun K hK => ?_)
      go_simp
      refine hK.out _ _ hHeld (fun hHeld => ?_)
      clear hK K
      (try simp only [Act.put, List.setIfInBounds_toArray, List.set_cons_zero, List.set_cons_succ])
      refine wpAnyE_one (i := 10) (o := { dst := some 121, op := Op.fieldAddr 36 (Operand.tmp 120) 0, type := 0, pos := "law.go:40", after := #[{ on := 9, ground := Ground.data }, { on := 0, ground := Ground.phase }, { on := 1, ground := Ground.phase }, { on := 2, ground := Ground.phase }, { on := 3, ground := Ground.phase }, { on := 4, ground := Ground.phase }, { on := 5, ground := Ground.phase }, { on := 6, ground := Ground.phase }, { on := 7, ground := Ground.phase }, { on := 8, ground := Ground.phase }], guard := none }) (by kernel_rfl) rfl (by rfl) (fun K hK => ?_)
      go_simp
      refine hK.out _ _ hHeld (fun hHeld => ?_)
      clear hK K
      (try simp only [Act.put, List.setIfInBounds_toArray, List.set_cons_zero, List.set_cons_succ])
      refine wpAnyE_take (i := 11) (oi := { dst := some 122, op := Op.fieldAddr 28 (Operand.tmp 121) 3, type := 0, pos := "law.go:40", after := #[{ on := 10, ground := Ground.data }, { on := 0, ground := Ground.phase }, { on := 1, ground := Ground.phase }, { on := 2, ground := Ground.phase }, { on := 3, ground := Ground.phase }, { on := 4, ground := Ground.phase }, { on := 5, ground := Ground.phase }, { on := 6, ground := Ground.phase }, { on := 7, ground := Ground.phase }, { on := 8, ground := Ground.phase }], guard := none }) (v := ?_) rfl (by kernel_rfl) (by kernel_rfl) (by kernel_rfl) (by kernel_rfl) (fun _ _ _ h => h) (Or.inl ⟨by rfl, ?_⟩) (by assumption) ?_
      rotate_left
      · intro wz hSz; (try dsimp only at hSz); go_simp; all_goals (with_reducible rfl)
      (try simp only [Act.put, List.setIfInBounds_toArray, List.set_cons_zero, List.set_cons_succ])
      refine wpAnyE_last (o := { dst := none, op := Op.store 24 (Operand.tmp 122) (Operand.tmp 119), type := 0, pos := "law.go:40", after := #[{ on := 11, ground := Ground.data }, { on := 8, ground := Ground.data }, { on := 0, ground := Ground.phase }, { on := 1, ground := Ground.phase }, { on := 2, ground := Ground.phase }, { on := 3, ground := Ground.phase }, { on := 4, ground := Ground.phase }, { on := 5, ground := Ground.phase }, { on := 6, ground := Ground.phase }, { on := 7, ground := Ground.phase }, { on := 8, ground := Ground.phase }], guard := none }) (by kernel_rfl) rfl (by kernel_rfl) (by rfl) (fun K hK => ?_)
      have xD13 : Z.drew.cell? ⟨w.heap.size + 1, 9, none⟩ = some _ := P5.room.2.1 9
      have zD13 : Z.drew.frozen? ⟨w.heap.size + 1, 9, none⟩ = false := P5.room.2.2 9
      go_simp
      refine hK _ _ ?_
      refine NoPanic.normal ?_
      have P6 := (P5.setRoom 9 (by simp) (.slice (some ⟨gS, 0, none⟩) t.S.length capS)).below ((Below.refl _ _).drew)
      simp only [List.setIfInBounds_toArray, List.set_cons_succ, List.set_cons_zero] at P6
      clear xD13 zD13 hHeld hK K P5
      generalize (World.setCell Z ⟨w.heap.size + 1, 9, none⟩ (.slice (some ⟨gS, 0, none⟩) t.S.length capS)).drew = Z at *
      go_wp2_with fail
      refine wp_region_noPanic ?_
      refine wp_region_E (S := fun w' => w'.cell? ⟨w.heap.size + 1, 15, none⟩ = some (.slice (some ⟨gX, 0, none⟩) (t.X.length + 2) capX) ∧ w'.cell? ⟨w.heap.size, 10, none⟩ = some (.slice aX t.X.length cX)) (E := 12) (by kernel_rfl) ?_ (fun hHeld => ?_)
      · (try dsimp only)
        exact ⟨P6.room.2.1 15, P6.box.2.1 10⟩
      refine wpAnyE_take (i := 0) (oi := { dst := some 123, op := Op.move (Operand.tmp 3), type := 29, pos := "law.go:41", after := #[], guard := none }) (v := ?_) rfl (by kernel_rfl) (by kernel_rfl) (by kernel_rfl) (by kernel_rfl) (fun _ _ _ h => h) (Or.inl ⟨by rfl, ?_⟩) (by assumption) ?_
      rotate_left
      · intro wz hSz; (try dsimp only at hSz); go_simp; all_goals (with_reducible rfl)
      (try simp only [Act.put, List.setIfInBounds_toArray, List.set_cons_zero, List.set_cons_succ])
      refine wpAnyE_take (i := 1) (oi := { dst := some 124, op := Op.move (Operand.tmp 3), type := 29, pos := "law.go:41", after := #[], guard := none }) (v := ?_) rfl (by kernel_rfl) (by kernel_rfl) (by kernel_rfl) (by kernel_rfl) (fun _ _ _ h => h) (Or.inl ⟨by rfl, ?_⟩) (by assumption) ?_
      rotate_left
      · intro wz hSz; (try dsimp only at hSz); go_simp; all_goals (with_reducible rfl)
      (try simp only [Act.put, List.setIfInBounds_toArray, List.set_cons_zero, List.set_cons_succ])
      refine wpAnyE_take (i := 2) (oi := { dst := some 125, op := Op.nilCheck (Operand.tmp 124), type := 0, pos := "law.go:41", after := #[{ on := 1, ground := Ground.data }], guard := none }) (v := ?_) rfl (by kernel_rfl) (by kernel_rfl) (by kernel_rfl) (by kernel_rfl) (fun _ _ _ h => h) (Or.inl ⟨by rfl, ?_⟩) (by assumption) ?_
      rotate_left
      · intro wz hSz; (try dsimp only at hSz); go_simp; all_goals (with_reducible rfl)
      (try simp only [Act.put, List.setIfInBounds_toArray, List.set_cons_zero, List.set_cons_succ])
      refine wpAnyE_take (i := 3) (oi := { dst := some 126, op := Op.fieldAddr 36 (Operand.tmp 125) 4, type := 0, pos := "law.go:41", after := #[{ on := 2, ground := Ground.data }], guard := none }) (v := ?_) rfl (by kernel_rfl) (by kernel_rfl) (by kernel_rfl) (by kernel_rfl) (fun _ _ _ h => h) (Or.inl ⟨by rfl, ?_⟩) (by assumption) ?_
      rotate_left
      · intro wz hSz; (try dsimp only at hSz); go_simp; all_goals (with_reducible rfl)
      (try simp only [Act.put, List.setIfInBounds_toArray, List.set_cons_zero, List.set_cons_succ])
      refine wpAnyE_take (i := 4) (oi := { dst := some 127, op := Op.load 25 (Operand.tmp 126), type := 25, pos := "law.go:41", after := #[{ on := 3, ground := Ground.data }], guard := none }) (v := ?_) rfl (by kernel_rfl) (by kernel_rfl) (by kernel_rfl) (by kernel_rfl) (fun _ _ _ h => h) (Or.inl ⟨by rfl, ?_⟩) (by assumption) ?_
      rotate_left
      · intro wz hSz; (try dsimp only at hSz); go_simp; all_goals (with_reducible rfl)
      (try simp only [Act.put, List.setIfInBounds_toArray, List.set_cons_zero, List.set_cons_succ])
      refine wpAnyE_take (i := 5) (oi := { dst := some 128, op := Op.fieldAddr 28 (Operand.tmp 1) 4, type := 0, pos := "law.go:41", after := #[], guard := none }) (v := ?_) rfl (by kernel_rfl) (by kernel_rfl) (by kernel_rfl) (by kernel_rfl) (fun _ _ _ h => h) (Or.inl ⟨by rfl, ?_⟩) (by assumption) ?_
      rotate_left
      · intro wz hSz; (try dsimp only at hSz); go_simp; all_goals (with_reducible rfl)
      (try simp only [Act.put, List.setIfInBounds_toArray, List.set_cons_zero, List.set_cons_succ])
      refine wpAnyE_take (i := 6) (oi := { dst := some 129, op := Op.load 25 (Operand.tmp 128), type := 25, pos := "law.go:41", after := #[{ on := 5, ground := Ground.data }], guard := none }) (v := ?_) rfl (by kernel_rfl) (by kernel_rfl) (by kernel_rfl) (by kernel_rfl) (fun _ _ _ h => h) (Or.inl ⟨by rfl, ?_⟩) (by assumption) ?_
      rotate_left
      · intro wz hSz; (try dsimp only at hSz); go_simp; all_goals (with_reducible rfl)
      (try simp only [Act.put, List.setIfInBounds_toArray, List.set_cons_zero, List.set_cons_succ])
      refine wpAnyE_take (i := 7) (oi := { dst := some 130, op := Op.call { callee := Callee.builtin Builtin.len, args := #[Operand.tmp 129], argTypes := #[25] }, type := 3, pos := "law.go:41", after := #[{ on := 6, ground := Ground.data }], guard := none }) (v := ?_) rfl (by kernel_rfl) (by kernel_rfl) (by kernel_rfl) (by kernel_rfl) (fun _ _ _ h => h) (Or.inl ⟨by rfl, ?_⟩) (by assumption) ?_
      rotate_left
      · intro wz hSz; (try dsimp only at hSz); go_simp; all_goals (with_reducible rfl)
      (try simp only [Act.put, List.setIfInBounds_toArray, List.set_cons_zero, List.set_cons_succ])
      refine wpAnyE_take (i := 8) (oi := { dst := some 131, op := Op.slice 25 (Operand.tmp 127) none (some (Operand.tmp 130)) none, type := 25, pos := "law.go:41", after := #[{ on := 4, ground := Ground.data }, { on := 7, ground := Ground.data }], guard := none }) (v := ?_) rfl (by kernel_rfl) (by kernel_rfl) (by kernel_rfl) (by kernel_rfl) (fun _ _ _ h => h) (Or.inl ⟨by rfl, ?_⟩) (by assumption) ?_
      rotate_left
      · intro wz hSz; (try dsimp only at hSz); go_simp; all_goals (with_reducible rfl)
      (try simp only [Act.put, List.setIfInBounds_toArray, List.set_cons_zero, List.set_cons_succ])
      refine wpAnyE_one (i := 9) (o := { dst := some 132, op := Op.nilCheck (Operand.tmp 123), type := 0, pos := "law.go:41", after := #[{ on := 0, ground := Ground.data }, { on := 0, ground := Ground.phase }, { on := 1, ground := Ground.phase }, { on := 2, ground := Ground.phase }, { on := 3, ground := Ground.phase }, { on := 4, ground := Ground.phase }, { on := 5, ground := Ground.phase }, { on := 6, ground := Ground.phase }, { on := 7, ground := Ground.phase }, { on := 8, ground := Ground.phase }], guard := none }) (by kernel_rfl) rfl (by rfl) (fun K hK => ?_)
      go_simp
      refine hK.out _ _ hHeld (fun hHeld => ?_)
      clear hK K
      (try simp only [Act.put, List.setIfInBounds_toArray, List.set_cons_zero, List.set_cons_succ])
      refine wpAnyE_one (i := 10) (o := { dst := some 133, op := Op.fieldAddr 36 (Operand.tmp 132) 0, type := 0, pos := "law.go:41", after := #[{ on := 9, ground := Ground.data }, { on := 0, ground := Ground.phase }, { on := 1, ground := Ground.phase }, { on := 2, ground := Ground.phase }, { on := 3, ground := Ground.phase }, { on := 4, ground := Ground.phase }, { on := 5, ground := Ground.phase }, { on := 6, ground := Ground.phase }, { on := 7, ground := Ground.phase }, { on := 8, ground := Ground.phase }], guard := none }) (by kernel_rfl) rfl (by rfl) (fun K hK => ?_)
      go_simp
      refine hK.out _ _ hHeld (fun hHeld => ?_)
      clear hK K
      (try simp only [Act.put, List.setIfInBounds_toArray, List.set_cons_zero, List.set_cons_succ])
      refine wpAnyE_take (i := 11) (oi := { dst := some 134, op := Op.fieldAddr 28 (Operand.tmp 133) 4, type := 0, pos := "law.go:41", after := #[{ on := 10, ground := Ground.data }, { on := 0, ground := Ground.phase }, { on := 1, ground := Ground.phase }, { on := 2, ground := Ground.phase }, { on := 3, ground := Ground.phase }, { on := 4, ground := Ground.phase }, { on := 5, ground := Ground.phase }, { on := 6, ground := Ground.phase }, { on := 7, ground := Ground.phase }, { on := 8, ground := Ground.phase }], guard := none }) (v := ?_) rfl (by kernel_rfl) (by kernel_rfl) (by kernel_rfl) (by kernel_rfl) (fun _ _ _ h => h) (Or.inl ⟨by rfl, ?_⟩) (by assumption) ?_
      rotate_left
      · intro wz hSz; (try dsimp only at hSz); go_simp; all_goals (with_reducible rfl)
      (try simp only [Act.put, List.setIfInBounds_toArray, List.set_cons_zero, List.set_cons_succ])
      refine wpAnyE_last (o := { dst := none, op := Op.store 25 (Operand.tmp 134) (Operand.tmp 131), type := 0, pos := "law.go:41", after := #[{ on := 11, ground := Ground.data }, { on := 8, ground := Ground.data }, { on := 0, ground := Ground.phase }, { on := 1, ground := Ground.phase }, { on := 2, ground := Ground.phase }, { on := 3, ground := Ground.phase }, { on := 4, ground := Ground.phase }, { on := 5, ground := Ground.phase }, { on := 6, ground := Ground.phase }, { on := 7, ground := Ground.phase }, { on := 8, ground := Ground.phase }], guard := none }) (by kernel_rfl) rfl (by kernel_rfl) (by rfl) (fun K hK => ?_)
      have xD14 : Z.drew.cell? ⟨w.heap.size + 1, 10, none⟩ = some _ := P6.room.2.1 10
      have zD14 : Z.drew.frozen? ⟨w.heap.size + 1, 10, none⟩ = false := P6.room.2.2 10
      go_simp
      refine hK _ _ ?_
      refine NoPanic.normal ?_
      have P7 := (P6.setRoom 10 (by simp) (.slice (some ⟨gX, 0, none⟩) t.X.length capX)).below ((Below.refl _ _).drew)
      simp only [List.setIfInBounds_toArray, List.set_cons_succ, List.set_cons_zero] at P7
      clear xD14 zD14 hHeld hK K P6
      generalize (World.setCell Z ⟨w.heap.size + 1, 10, none⟩ (.slice (some ⟨gX, 0, none⟩) t.X.length capX)).drew = Z at *
      go_wp2_with fail
      refine wp_region_noPanic ?_
      refine wp_region_E (S := fun w' => w'.cell? ⟨w.heap.size + 1, 16, none⟩ = some (.slice (some ⟨gH, 0, none⟩) (t.H.length + 2) capH) ∧ w'.cell? ⟨w.heap.size, 11, none⟩ = some (.slice aH t.H.length cH)) (E := 12) (by kernel_rfl) ?_ (fun hHeld => ?_)
      · (try dsimp only)
        exact ⟨P7.room.2.1 16, P7.box.2.1 11⟩
      refine wpAnyE_take (i := 0) (oi := { dst := some 135, op := Op.move (Operand.tmp 3), type := 29, pos := "law.go:42", after := #[], guard := none }) (v := ?_) rfl (by kernel_rfl) (by kernel_rfl) (by kernel_rfl) (by kernel_rfl) (fun _ _ _ h => h) (Or.inl ⟨by rfl, ?_⟩) (by assumption) ?_
      rotate_left
      · intro wz hSz; (try dsimp only at hSz); go_simp; all_goals (with_reducible rfl)
      (try simp only [Act.put, List.setIfInBounds_toArray, List.set_cons_zero, List.set_cons_succ])
      refine wpAnyE_take (i := 1) (oi := { dst := some 136, op := Op.move (Operand.tmp 3), type := 29, pos := "law.go:42", after := #[], guard := none }) (v := ?_) rfl (by kernel_rfl) (by kernel_rfl) (by kernel_rfl) (by kernel_rfl) (fun _ _ _ h => h) (Or.inl ⟨by rfl, ?_⟩) (by assumption) ?_
      rotate_left
      · intro wz hSz; (try dsimp only at hSz); go_simp; all_goals (with_reducible rfl)
      (try simp only [Act.put, List.setIfInBounds_toArray, List.set_cons_zero, List.set_cons_succ])
      refine wpAnyE_take (i := 2) (oi := { dst := some 137, op := Op.nilCheck (Operand.tmp 136), type := 0, pos := "law.go:42", after := #[{ on := 1, ground := Ground.data }], guard := none }) (v := ?_) rfl (by kernel_rfl) (by kernel_rfl) (by kernel_rfl) (by kernel_rfl) (fun _ _ _ h => h) (Or.inl ⟨by rfl, ?_⟩) (by assumption) ?_
      rotate_left
      · intro wz hSz; (try dsimp only at hSz); go_simp; all_goals (with_reducible rfl)
      (try simp only [Act.put, List.setIfInBounds_toArray, List.set_cons_zero, List.set_cons_succ])
      refine wpAnyE_take (i := 3) (oi := { dst := some 138, op := Op.fieldAddr 36 (Operand.tmp 137) 5, type := 0, pos := "law.go:42", after := #[{ on := 2, ground := Ground.data }], guard := none }) (v := ?_) rfl (by kernel_rfl) (by kernel_rfl) (by kernel_rfl) (by kernel_rfl) (fun _ _ _ h => h) (Or.inl ⟨by rfl, ?_⟩) (by assumption) ?_
      rotate_left
      · intro wz hSz; (try dsimp only at hSz); go_simp; all_goals (with_reducible rfl)
      (try simp only [Act.put, List.setIfInBounds_toArray, List.set_cons_zero, List.set_cons_succ])
      refine wpAnyE_take (i := 4) (oi := { dst := some 139, op := Op.load 26 (Operand.tmp 138), type := 26, pos := "law.go:42", after := #[{ on := 3, ground := Ground.data }], guard := none }) (v := ?_) rfl (by kernel_rfl) (by kernel_rfl) (by kernel_rfl) (by kernel_rfl) (fun _ _ _ h => h) (Or.inl ⟨by rfl, ?_⟩) (by assumption) ?_
      rotate_left
      · intro wz hSz; (try dsimp only at hSz); go_simp; all_goals (with_reducible rfl)
      (try simp only [Act.put, List.setIfInBounds_toArray, List.set_cons_zero, List.set_cons_succ])
      refine wpAnyE_take (i := 5) (oi := { dst := some 140, op := Op.fieldAddr 28 (Operand.tmp 1) 5, type := 0, pos := "law.go:42", after := #[], guard := none }) (v := ?_) rfl (by kernel_rfl) (by kernel_rfl) (by kernel_rfl) (by kernel_rfl) (fun _ _ _ h => h) (Or.inl ⟨by rfl, ?_⟩) (by assumption) ?_
      rotate_left
      · intro wz hSz; (try dsimp only at hSz); go_simp; all_goals (with_reducible rfl)
      (try simp only [Act.put, List.setIfInBounds_toArray, List.set_cons_zero, List.set_cons_succ])
      refine wpAnyE_take (i := 6) (oi := { dst := some 141, op := Op.load 26 (Operand.tmp 140), type := 26, pos := "law.go:42", after := #[{ on := 5, ground := Ground.data }], guard := none }) (v := ?_) rfl (by kernel_rfl) (by kernel_rfl) (by kernel_rfl) (by kernel_rfl) (fun _ _ _ h => h) (Or.inl ⟨by rfl, ?_⟩) (by assumption) ?_
      rotate_left
      · intro wz hSz; (try dsimp only at hSz); go_simp; all_goals (with_reducible rfl)
      (try simp only [Act.put, List.setIfInBounds_toArray, List.set_cons_zero, List.set_cons_succ])
      refine wpAnyE_take (i := 7) (oi := { dst := some 142, op := Op.call { callee := Callee.builtin Builtin.len, args := #[Operand.tmp 141], argTypes := #[26] }, type := 3, pos := "law.go:42", after := #[{ on := 6, ground := Ground.data }], guard := none }) (v := ?_) rfl (by kernel_rfl) (by kernel_rfl) (by kernel_rfl) (by kernel_rfl) (fun _ _ _ h => h) (Or.inl ⟨by rfl, ?_⟩) (by assumption) ?_
      rotate_left
      · intro wz hSz; (try dsimp only at hSz); go_simp; all_goals (with_reducible rfl)
      (try simp only [Act.put, List.setIfInBounds_toArray, List.set_cons_zero, List.set_cons_succ])
      refine wpAnyE_take (i := 8) (oi := { dst := some 143, op := Op.slice 26 (Operand.tmp 139) none (some (Operand.tmp 142)) none, type := 26, pos := "law.go:42", after := #[{ on := 4, ground := Ground.data }, { on := 7, ground := Ground.data }], guard := none }) (v := ?_) rfl (by kernel_rfl) (by kernel_rfl) (by kernel_rfl) (by kernel_rfl) (fun _ _ _ h => h) (Or.inl ⟨by rfl, ?_⟩) (by assumption) ?_
      rotate_left
      · intro wz hSz; (try dsimp only at hSz); go_simp; all_goals (with_reducible rfl)
      (try simp only [Act.put, List.setIfInBounds_toArray, List.set_cons_zero, List.set_cons_succ])
      refine wpAnyE_one (i := 9) (o := { dst := some 144, op := Op.nilCheck (Operand.tmp 135), type := 0, pos := "law.go:42", after := #[{ on := 0, ground := Ground.data }, { on := 0, ground := Ground.phase }, { on := 1, ground := Ground.phase }, { on := 2, ground := Ground.phase }, { on := 3, ground := Ground.phase }, { on := 4, ground := Ground.phase }, { on := 5, ground := Ground.phase }, { on := 6, ground := Ground.phase }, { on := 7, ground := Ground.phase }, { on := 8, ground := Ground.phase }], guard := none }) (by kernel_rfl) rfl (by rfl) (fun K hK => ?_)
      go_simp
      refine hK.out _ _ hHeld (fun hHeld => ?_)
      clear hK K
      (try simp only [Act.put, List.setIfInBounds_toArray, List.set_cons_zero, List.set_cons_succ])
      refine wpAnyE_one (i := 10) (o := { dst := some 145, op := Op.fieldAddr 36 (Operand.tmp 144) 0, type := 0, pos := "law.go:42", after := #[{ on := 9, ground := Ground.data }, { on := 0, ground := Ground.phase }, { on := 1, ground := Ground.phase }, { on := 2, ground := Ground.phase }, { on := 3, ground := Ground.phase }, { on := 4, ground := Ground.phase }, { on := 5, ground := Ground.phase }, { on := 6, ground := Ground.phase }, { on := 7, ground := Ground.phase }, { on := 8, ground := Ground.phase }], guard := none }) (by kernel_rfl) rfl (by rfl) (fun K hK => ?_)
      go_simp
      refine hK.out _ _ hHeld (fun hHeld => ?_)
      clear hK K
      (try simp only [Act.put, List.setIfInBounds_toArray, List.set_cons_zero, List.set_cons_succ])
      refine wpAnyE_take (i := 11) (oi := { dst := some 146, op := Op.fieldAddr 28 (Operand.tmp 145) 5, type := 0, pos := "law.go:42", after := #[{ on := 10, ground := Ground.data }, { on := 0, ground := Ground.phase }, { on := 1, ground := Ground.phase }, { on := 2, ground := Ground.phase }, { on := 3, ground := Ground.phase }, { on := 4, ground := Ground.phase }, { on := 5, ground := Ground.phase }, { on := 6, ground := Ground.phase }, { on := 7, ground := Ground.phase }, { on := 8, ground := Ground.phase }], guard := none }) (v := ?_) rfl (by kernel_rfl) (by kernel_rfl) (by kernel_rfl) (by kernel_rfl) (fun _ _ _ h => h) (Or.inl ⟨by rfl, ?_⟩) (by assumption) ?_
      rotate_left
      · intro wz hSz; (try dsimp only at hSz); go_simp; all_goals (with_reducible rfl)
      (try simp only [Act.put, List.setIfInBounds_toArray, List.set_cons_zero, List.set_cons_succ])
      refine wpAnyE_last (o := { dst := none, op := Op.store 26 (Operand.tmp 146) (Operand.tmp 143), type := 0, pos := "law.go:42", after := #[{ on := 11, ground := Ground.data }, { on := 8, ground := Ground.data }, { on := 0, ground := Ground.phase }, { on := 1, ground := Ground.phase }, { on := 2, ground := Ground.phase }, { on := 3, ground := Ground.phase }, { on := 4, ground := Ground.phase }, { on := 5, ground := Ground.phase }, { on := 6, ground := Ground.phase }, { on := 7, ground := Ground.phase }, { on := 8, ground := Ground.phase }], guard := none }) (by kernel_rfl) rfl (by kernel_rfl) (by rfl) (fun K hK => ?_)
      have xD15 : Z.drew.cell? ⟨w.heap.size + 1, 11, none⟩ = some _ := P7.room.2.1 11
      have zD15 : Z.drew.frozen? ⟨w.heap.size + 1, 11, none⟩ = false := P7.room.2.2 11
      go_simp
      refine hK _ _ ?_
      refine NoPanic.normal ?_
      have P8 := (P7.setRoom 11 (by simp) (.slice (some ⟨gH, 0, none⟩) t.H.length capH)).below ((Below.refl _ _).drew)
      simp only [List.setIfInBounds_toArray, List.set_cons_succ, List.set_cons_zero] at P8
      clear xD15 zD15 hHeld hK K P7
      generalize (World.setCell Z ⟨w.heap.size + 1, 11, none⟩ (.slice (some ⟨gH, 0, none⟩) t.H.length capH)).drew = Z at *
      go_wp2_with fail
      go_ret
      exact ⟨Ls, g8, cap8, ra, rcp, gS, capS, gX, capX, gH, capH, rfl, hLe.out, by omega, by omega, by omega, by omega, P8⟩

end Go.Proofs.YtddphepgcihdbaaGreat
