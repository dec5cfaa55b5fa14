import Derived.Test.YtjfieclmagbfbaaGreatDoorTlG
import Derived.Test.YtjfieclmagbfbaaGreatDoorTlF
import Derived.Laws.Bits64b
set_option linter.unusedVariables false
set_option linter.unusedSimpArgs false
namespace Go.Proofs.YtjfieclmagbfbaaGreatDoor
open Go.RowKit
theorem Only.mono {S T : Nat → Prop} {a b : World} (h : Only S a b) (hs : ∀ k, S k → T k) : Only T a b := ⟨h.os, h.tape, h.output, h.size, fun k hk hn => h.block k hk (fun c => hn (hs k c))⟩
theorem put1 {α : Type} {cs : α → List Value} {sz : Nat} (hl : ∀ x, (cs x).length = sz) {L : List α} {i f : Nat} (h : i < L.length) (hf : f < sz) {v : Value} {y : α} (hy : (cs L[i]).set f v = cs y) : (cellsF cs L).set (i * sz + f) v = cellsF cs (L.set i y) := by
  obtain ⟨e, h2, hs⟩ := cut_len h
  rw [hs]
  conv => lhs; rw [e]
  rw [cellsF_append, cellsF_append]
  have e1 : (cellsF cs (L.take i)).length = i * sz := by rw [cellsF_len hl, h2]
  rw [List.set_append_right _ _ (by omega), e1, show i * sz + f - i * sz = f by omega]
  congr 1
  show (cs L[i] ++ cellsF cs (L.drop (i + 1))).set f v = cs y ++ cellsF cs (L.drop (i + 1))
  rw [List.set_append_left _ _ (by rw [hl]; exact hf), hy]
/-- What spoilt answers. -/
def SpP (o : Nat → Nat) (B : Nat) (G : List Gp) (C : List Cf) (SG : List Ts) (F : List Fd) (vG vC vS : Value) (w : World) (e : Ending) (w' : World) : Prop :=
  ∃ (Y : List Sv) (fa : Option Addr) (fc : Nat), e = .returned (.slice fa F.length fc) ∧ Hid (Fl 4 Fd.cs w' (.slice fa F.length fc) F) ∧ Hid (Rn o B w' G C Y vG vC vS) ∧ Y.map (·.x) = SG ∧ Only (fun q => vG.ownBlock = some q ∨ vC.ownBlock = some q ∨ vS.ownBlock = some q) w w'
theorem fl_one {W : World} {b : Nat} {x : Fd} (h : Has W b x.cs.toArray) : Fl 4 Fd.cs W (.slice (some ⟨b, 0, none⟩) [x].length 1) [x] := by
  refine .inr ⟨⟨b, 0, none⟩, 1, rfl, Nat.le_refl _, .inr ⟨rfl, h.1, fun i hi j u hu => ?_⟩⟩
  obtain rfl : i = 0 := by have : i < 1 := hi; omega
  show W.cell? ⟨b, 0 + 0 * 4 + j, none⟩ = some u
  rw [show 0 + 0 * 4 + j = j by omega, h.2.1 j]
  simpa using hu
theorem gp_at {n : Nat} {am : Int} {i : Nat} (h : i < n) (h2 : i < (gL n am).length) : (gL n am)[i] = gN am i := by simp [gL]
theorem sp_fin {o : Nat → Nat} {B : Nat} {G : List Gp} {C : List Cf} {Y : List Sv} {SG : List Ts} {vG vC vS : Value} {w wS : World} {bx : Array Value} {c s a b : Int} (hR : Rn o B wS G C Y vG vC vS) (hY : Y.map (·.x) = SG) (ho : Only (fun q => vG.ownBlock = some q ∨ vC.ownBlock = some q ∨ vS.ownBlock = some q) w wS) (hs : wS.heap.size = w.heap.size) :
    SpP o B G C SG [⟨c, s, a, b⟩] vG vC vS w (.returned (.slice (some ⟨w.heap.size + 1, 0, none⟩) 1 1)) ((wS.alloc (.cells bx 31)).alloc (.cells #[.int .i64 c, .int .i64 s, .int .i64 a, .int .i64 b] 70)) :=
  ⟨Y, some ⟨w.heap.size + 1, 0, none⟩, 1, rfl, fl_one (x := ⟨c, s, a, b⟩) (Has.new _ _ _ (by simp [hs])), hR.below belA, hY, (ho.alloc _).alloc _⟩
theorem sv_len2 {n : Nat} {Y : List Sv} (hY : Y.map (·.x) = sL n) : Y.length = n := by have := congrArg List.length hY; rw [List.length_map, sL_len] at this; exact this
theorem sv_at {n : Nat} {Y : List Sv} (hY : Y.map (·.x) = sL n) (i : Nat) (h : i < Y.length) : Y[i].x = sN n i := by
  have h2 : i < (sL n).length := by rw [← hY, List.length_map]; exact h
  have : (sL n)[i] = Y[i].x := by simp only [← hY, List.getElem_map]
  rw [← this, sL_at]
/-- A stage with another mask; one with no next. -/
def Sv.gr (s : Sv) (g : Int) : Sv := ⟨⟨s.x.name, s.x.id, g, s.x.enter, s.x.during, s.x.leave, s.x.nexts⟩, s.ea, s.ec, s.da, s.dc, s.la, s.lc, s.na, s.nc, s.xs⟩
def Sv.nx0 (s : Sv) : Sv := ⟨⟨s.x.name, s.x.id, s.x.green, s.x.enter, s.x.during, s.x.leave, []⟩, s.ea, s.ec, s.da, s.dc, s.la, s.lc, none, 0, s.xs⟩
theorem sv_set {o : Nat → Nat} {W : World} {Y : List Sv} {i : Nat} (hi : i < Y.length) {z : Sv} (hz : Stt o W Y[i] → Stt o W z) : ∀ y ∈ Y.set i z, (∃ x ∈ Y, (Stt o W x → Stt o W y)) := by
  intro y hy
  rcases List.mem_or_eq_of_mem_set hy with hy | rfl
  · exact ⟨y, hy, id⟩
  · exact ⟨Y[i], List.getElem_mem hi, hz⟩
theorem stt_gr {o : Nat → Nat} {W : World} {s : Sv} (g : Int) (h : Stt o W s) : Stt o W (s.gr g) := ⟨h.q, h.n⟩
theorem stt_nx0 {o : Nat → Nat} {W : World} {s : Sv} (h : Stt o W s) : Stt o W s.nx0 := ⟨h.q, .inl ⟨rfl, rfl⟩⟩
theorem sp_drew {o : Nat → Nat} {B : Nat} {G : List Gp} {C : List Cf} {SG : List Ts} {F : List Fd} {vG vC vS : Value} {w w' : World} {e : Ending} (h : SpP o B G C SG F vG vC vS w e w') : SpP o B G C SG F vG vC vS w e w'.drew := by
  obtain ⟨Y, fa, fc, h1, h2, h3, h4, h5⟩ := h
  exact ⟨Y, fa, fc, h1, h2.out.below belD0, h3.out.below belD0, h4, ⟨h5.os, h5.tape, h5.output, h5.size, h5.block⟩⟩
theorem sp_gen {o : Nat → Nat} {B : Nat} {G : List Gp} {C : List Cf} {Y : List Sv} {SG : List Ts} {vG vC vS : Value} {w w' : World} {g : Nat} {c s a b : Int} (hR : Rn o B w' G C Y vG vC vS) (hY : Y.map (·.x) = SG) (ho : Only (fun q => vG.ownBlock = some q ∨ vC.ownBlock = some q ∨ vS.ownBlock = some q) w w') (hF : Has w' g #[.int .i64 c, .int .i64 s, .int .i64 a, .int .i64 b]) :
    SpP o B G C SG [⟨c, s, a, b⟩] vG vC vS w (.returned (.slice (some ⟨g, 0, none⟩) 1 1)) w' :=
  ⟨Y, some ⟨g, 0, none⟩, 1, rfl, fl_one (x := ⟨c, s, a, b⟩) hF, hR, hY, ho⟩
set_option maxRecDepth 100000 in
set_option maxHeartbeats 4000000 in
theorem spoilN (n : Nat) (am V : Int) (i : Nat) (kk : Int) (o : Nat → Nat) (B : Nat) (C : List Cf) (Y : List Sv) (ga ca sa : Option Addr) (gc cc sc : Nat) (w : World) (h : Rg n am i) (hC : Cs n am V C) (hR : Hid (Rn o B w (gL n am) C Y (.slice ga n gc) (.slice ca C.length cc) (.slice sa n sc))) (hY : Y.map (·.x) = sL n) (kd : Int) (k0 : kd ≠ 0) (k1 : kd ≠ 1) (k2 : kd ≠ 2) (k3 : kd ≠ 3) (k4 : kd ≠ 4) (k5 : kd ≠ 5) (k6 : kd ≠ 6) (k7 : kd ≠ 7) :
    Calls Tryz.prog 7 #[(.agg #[.string ⟨#[114, 105, 110, 103]⟩, .slice ga n gc, .slice ca C.length cc, .slice none 0 0, .slice none 0 0, .slice none 0 0, .slice none 0 0, .slice sa n sc, .int .i64 0]), .int .i64 kd, .int .i64 (i : Int), .int .i64 kk] w fun e w' => SpP o B (gL n am) C (sL n) [] (.slice ga n gc) (.slice ca C.length cc) (.slice sa n sc) w e w' := by
  have n2 := h.n2
  have n26 := h.n26
  have hi := h.hi
  go_enter Tryz.func7, Tryz.ntmps7
  go_wp2_with fail
  go_ret
  exact ⟨Y, none, 0, rfl, .inl ⟨rfl, rfl⟩, hR.out.below (bel1 _), hY, Only.of_below (bel1 _)⟩
set_option maxRecDepth 100000 in
set_option maxHeartbeats 4000000 in
theorem spoil0 (n : Nat) (am V : Int) (i : Nat) (kk : Int) (o : Nat → Nat) (B : Nat) (C : List Cf) (Y : List Sv) (ga ca sa : Option Addr) (gc cc sc : Nat) (w : World) (h : Rg n am i) (hC : Cs n am V C) (hR : Hid (Rn o B w (gL n am) C Y (.slice ga n gc) (.slice ca C.length cc) (.slice sa n sc))) (hY : Y.map (·.x) = sL n) :
    Calls Tryz.prog 7 #[(.agg #[.string ⟨#[114, 105, 110, 103]⟩, .slice ga n gc, .slice ca C.length cc, .slice none 0 0, .slice none 0 0, .slice none 0 0, .slice none 0 0, .slice sa n sc, .int .i64 0]), .int .i64 0, .int .i64 (i : Int), .int .i64 kk] w fun e w' => SpP o B ((gL n am).set i (y0 am i)) C (sL n) [⟨62, -1, i, -1⟩] (.slice ga n gc) (.slice ca C.length cc) (.slice sa n sc) w e w' := by
  have n2 := h.n2
  have n26 := h.n26
  have hi := h.hi
  have ow := hR.out.oG.own
  rw [gL_len] at ow
  obtain ⟨gG, cap, e1, _, hgB, hgG⟩ := own_block ow (by omega)
  injection e1 with e1 e0 e2
  clear e0
  subst e1
  subst e2
  have fz := ow.frozenAt
  have hgi : i < (gL n am).length := by rw [gL_len]; exact hi
  have t1 : (i : Int) < (n : Int) := by omega
  have t0 : (0 : Int) ≤ (i : Int) := by omega
  have gS : gG < w.heap.size + 1 := by omega
  obtain ⟨so, hso⟩ : ∃ s, Hid ((gN am i).sort = s) := ⟨_, rfl⟩
  have so1 : 1 ≤ so ∧ so ≤ 2 := by have := gN_sort am i; have := hso.out; omega
  obtain ⟨so1, so2⟩ := so1
  have c1 : w.cell? ⟨gG, i * 5 + 1, none⟩ = some (.int .i64 so) := own_reads ow rfl _ _ (by rw [cellsF_get gp_len (gL n am) i 1 hgi (by decide), gp_at hi hgi, ← hso.out]; rfl)
  have c2 : w.cell? ⟨gG, i * 5 + 2, none⟩ = some (.int .i64 5) := own_reads ow rfl _ _ (by rw [cellsF_get gp_len (gL n am) i 2 hgi (by decide), gp_at hi hgi]; rfl)
  have o9 := (ow.stored (i * 5 + 2) (.int .i64 (5 - so))).1
  rw [put1 gp_len hgi (by decide) (y := y0 am i) (by rw [gp_at hi hgi, ← hso.out]; rfl)] at o9
  have hR9 := hR.out.setG (G' := (gL n am).set i (y0 am i)) rfl (only_of_set w gG (i * 5 + 2) (.int .i64 (5 - so))) (by rw [gS_len]; exact o9)
  have ho9 := (only_of_set w gG (i * 5 + 2) (.int .i64 (5 - so))).mono (T := fun q => (Value.slice (some ⟨gG, 0, none⟩) n gc).ownBlock = some q ∨ (Value.slice ca C.length cc).ownBlock = some q ∨ (Value.slice sa n sc).ownBlock = some q) (fun q e => .inl (by rw [e]; rfl))
  have hR9 := hideG hR9
  clear ow o9 hR hso
  go_enter Tryz.func7, Tryz.ntmps7
  go_wp2_with fail
  go_ret
  exact sp_fin hR9.out hY ho9 (by simp [World.setCell])
set_option maxRecDepth 100000 in
set_option maxHeartbeats 4000000 in
theorem spoil1 (n : Nat) (am V : Int) (i : Nat) (kk : Int) (o : Nat → Nat) (B : Nat) (C : List Cf) (Y : List Sv) (ga ca sa : Option Addr) (gc cc sc : Nat) (w : World) (h : Rg n am i) (hC : Cs n am V C) (hR : Hid (Rn o B w (gL n am) C Y (.slice ga n gc) (.slice ca C.length cc) (.slice sa n sc))) (hY : Y.map (·.x) = sL n) :
    Calls Tryz.prog 7 #[(.agg #[.string ⟨#[114, 105, 110, 103]⟩, .slice ga n gc, .slice ca C.length cc, .slice none 0 0, .slice none 0 0, .slice none 0 0, .slice none 0 0, .slice sa n sc, .int .i64 0]), .int .i64 1, .int .i64 (i : Int), .int .i64 kk] w fun e w' => SpP o B ((gL n am).set i (y1 am i)) C (sL n) [⟨63, -1, i, -1⟩] (.slice ga n gc) (.slice ca C.length cc) (.slice sa n sc) w e w' := by
  have n2 := h.n2
  have n26 := h.n26
  have hi := h.hi
  have ow := hR.out.oG.own
  rw [gL_len] at ow
  obtain ⟨gG, cap, e1, _, hgB, hgG⟩ := own_block ow (by omega)
  injection e1 with e1 e0 e2
  clear e0
  subst e1
  subst e2
  have fz := ow.frozenAt
  have hgi : i < (gL n am).length := by rw [gL_len]; exact hi
  have t1 : (i : Int) < (n : Int) := by omega
  have t0 : (0 : Int) ≤ (i : Int) := by omega
  have gS : gG < w.heap.size + 1 := by omega
  have c1 : w.cell? ⟨gG, i * 5 + 1, none⟩ = some (.int .i64 (gN am i).sort) := own_reads ow rfl _ _ (by rw [cellsF_get gp_len (gL n am) i 1 hgi (by decide), gp_at hi hgi]; rfl)
  have c3 : w.cell? ⟨gG, i * 5 + 3, none⟩ = some (.int .i64 am) := own_reads ow rfl _ _ (by rw [cellsF_get gp_len (gL n am) i 3 hgi (by decide), gp_at hi hgi]; rfl)
  have o9 := ((ow.stored (i * 5 + 1) (.int .i64 1)).1.stored (i * 5 + 3) (.int .i64 2)).1
  rw [put1 gp_len hgi (by decide) (y := ⟨(gN am i).name, 1, 5, am, 0⟩) (by rw [gp_at hi hgi]; rfl), put1 gp_len (by rw [List.length_set]; exact hgi) (by decide) (y := y1 am i) (by rw [List.getElem_set_self]; rfl), List.set_set] at o9
  have y9 := (only_of_set w gG (i * 5 + 1) (.int .i64 1)).trans (only_of_set (w.setCell ⟨gG, i * 5 + 1, none⟩ (.int .i64 1)) gG (i * 5 + 3) (.int .i64 2))
  have hR9 := hideG (hR.out.setG (G' := (gL n am).set i (y1 am i)) rfl y9 (by rw [gS_len]; exact o9))
  have ho9 := y9.mono (T := fun q => (Value.slice (some ⟨gG, 0, none⟩) n gc).ownBlock = some q ∨ (Value.slice ca C.length cc).ownBlock = some q ∨ (Value.slice sa n sc).ownBlock = some q) (fun q e => .inl (by rw [e]; rfl))
  clear ow o9 hR y9
  go_enter Tryz.func7, Tryz.ntmps7
  go_wp2_with fail
  go_ret
  exact sp_fin hR9.out hY ho9 (by simp [World.setCell])
set_option maxRecDepth 100000 in
set_option maxHeartbeats 4000000 in
theorem spoil2 (n : Nat) (am V : Int) (i : Nat) (kk : Int) (o : Nat → Nat) (B : Nat) (C : List Cf) (Y : List Sv) (ga ca sa : Option Addr) (gc cc sc : Nat) (w : World) (h : Rg n am i) (hC : Cs n am V C) (hR : Hid (Rn o B w (gL n am) C Y (.slice ga n gc) (.slice ca C.length cc) (.slice sa n sc))) (hY : Y.map (·.x) = sL n) :
    Calls Tryz.prog 7 #[(.agg #[.string ⟨#[114, 105, 110, 103]⟩, .slice ga n gc, .slice ca C.length cc, .slice none 0 0, .slice none 0 0, .slice none 0 0, .slice none 0 0, .slice sa n sc, .int .i64 0]), .int .i64 2, .int .i64 (i : Int), .int .i64 kk] w fun e w' => SpP o B ((gL n am).set i (y2 am i)) C (sL n) [⟨64, -1, i, -1⟩] (.slice ga n gc) (.slice ca C.length cc) (.slice sa n sc) w e w' := by
  have n2 := h.n2
  have n26 := h.n26
  have hi := h.hi
  have ow := hR.out.oG.own
  rw [gL_len] at ow
  obtain ⟨gG, cap, e1, _, hgB, hgG⟩ := own_block ow (by omega)
  injection e1 with e1 e0 e2
  clear e0
  subst e1
  subst e2
  have fz := ow.frozenAt
  have hgi : i < (gL n am).length := by rw [gL_len]; exact hi
  have t1 : (i : Int) < (n : Int) := by omega
  have t0 : (0 : Int) ≤ (i : Int) := by omega
  have gS : gG < w.heap.size + 1 := by omega
  have c4 : w.cell? ⟨gG, i * 5 + 4, none⟩ = some (.int .i64 0) := own_reads ow rfl _ _ (by rw [cellsF_get gp_len (gL n am) i 4 hgi (by decide), gp_at hi hgi]; rfl)
  have o9 := (ow.stored (i * 5 + 4) (.int .i64 4)).1
  rw [put1 gp_len hgi (by decide) (y := y2 am i) (by rw [gp_at hi hgi]; rfl)] at o9
  have y9 := only_of_set w gG (i * 5 + 4) (.int .i64 4)
  have hR9 := hideG (hR.out.setG (G' := (gL n am).set i (y2 am i)) rfl y9 (by rw [gS_len]; exact o9))
  have ho9 := y9.mono (T := fun q => (Value.slice (some ⟨gG, 0, none⟩) n gc).ownBlock = some q ∨ (Value.slice ca C.length cc).ownBlock = some q ∨ (Value.slice sa n sc).ownBlock = some q) (fun q e => .inl (by rw [e]; rfl))
  clear ow o9 hR y9
  go_enter Tryz.func7, Tryz.ntmps7
  go_wp2_with fail
  go_ret
  exact sp_fin hR9.out hY ho9 (by simp [World.setCell])
set_option maxRecDepth 100000 in
set_option maxHeartbeats 4000000 in
theorem spoil6 (n : Nat) (am V : Int) (i : Nat) (kk : Int) (o : Nat → Nat) (B : Nat) (C : List Cf) (Y : List Sv) (ga ca sa : Option Addr) (gc cc sc : Nat) (w : World) (h : Rg n am i) (hC : Cs n am V C) (hR : Hid (Rn o B w (gL n am) C Y (.slice ga n gc) (.slice ca C.length cc) (.slice sa n sc))) (hY : Y.map (·.x) = sL n) :
    Calls Tryz.prog 7 #[(.agg #[.string ⟨#[114, 105, 110, 103]⟩, .slice ga n gc, .slice ca C.length cc, .slice none 0 0, .slice none 0 0, .slice none 0 0, .slice none 0 0, .slice sa n sc, .int .i64 0]), .int .i64 6, .int .i64 (i : Int), .int .i64 kk] w fun e w' => SpP o B (gL n am) C ((sL n).set i (z6 n i)) [⟨66, -1, i, -1⟩] (.slice ga n gc) (.slice ca C.length cc) (.slice sa n sc) w e w' := by
  have n2 := h.n2
  have n26 := h.n26
  have hi := h.hi
  have hYl := sv_len2 hY
  have ow := hR.out.oS.own
  rw [hYl] at ow
  obtain ⟨gT, cap, e1, _, hgB, hgT⟩ := own_block ow (by omega)
  injection e1 with e1 e0 e2
  clear e0
  subst e1
  subst e2
  have fz := ow.frozenAt
  have t1 : (i : Int) < (n : Int) := by omega
  have t0 : (0 : Int) ≤ (i : Int) := by omega
  have gS : gT < w.heap.size + 1 := by omega
  have hyi : i < Y.length := by omega
  have hyx := sv_at hY i hyi
  have c0 : w.cell? ⟨gT, i * 7 + 2, none⟩ = some (.int .u64 ((2 ^ i : Nat) : Int)) := own_reads ow rfl _ _ (by rw [cellsF_get sv_len Y i 2 hyi (by decide)]; (try rw [← hold]); (first | rfl | (show some (Value.int .u64 Y[i].x.green) = _; rw [hyx]; rfl)))
  have o9 := (ow.stored (i * 7 + 2) (.int .u64 0)).1
  rw [put1 sv_len hyi (by decide) (y := Y[i].gr 0) rfl] at o9
  have y9 := only_of_set w gT (i * 7 + 2) (.int .u64 0)
  have hR9 := hideG (hR.out.setS (Y' := Y.set i (Y[i].gr 0)) rfl y9 (by rw [List.length_set, hYl]; exact o9) (sv_set hyi (stt_gr 0)))
  have hY9 : (Y.set i (Y[i].gr 0)).map (·.x) = (sL n).set i (z6 n i) := by rw [List.map_set, hY]; congr 1; (first | (show Ts.mk Y[i].x.name Y[i].x.id _ Y[i].x.enter Y[i].x.during Y[i].x.leave Y[i].x.nexts = _; rw [hyx]; rfl) | (show Ts.mk Y[i].x.name Y[i].x.id Y[i].x.green Y[i].x.enter Y[i].x.during Y[i].x.leave [] = _; rw [hyx]; rfl))
  have ho9 := y9.mono (T := fun q => (Value.slice ga n gc).ownBlock = some q ∨ (Value.slice ca C.length cc).ownBlock = some q ∨ (Value.slice (some ⟨gT, 0, none⟩) n sc).ownBlock = some q) (fun q e => .inr (.inr (by rw [e]; rfl)))
  clear ow o9 hR y9 hyx hY
  generalize (((2 ^ i : Nat) : Int)) = old at c0
  go_enter Tryz.func7, Tryz.ntmps7
  go_wp2_with fail
  go_ret
  exact sp_fin hR9.out hY9 ho9 (by simp [World.setCell])
set_option maxRecDepth 100000 in
set_option maxHeartbeats 4000000 in
theorem spoil5 (n : Nat) (am V : Int) (i : Nat) (kk : Int) (o : Nat → Nat) (B : Nat) (C : List Cf) (Y : List Sv) (ga ca sa : Option Addr) (gc cc sc : Nat) (w : World) (h : Rg n am i) (hC : Cs n am V C) (hR : Hid (Rn o B w (gL n am) C Y (.slice ga n gc) (.slice ca C.length cc) (.slice sa n sc))) (hY : Y.map (·.x) = sL n) :
    Calls Tryz.prog 7 #[(.agg #[.string ⟨#[114, 105, 110, 103]⟩, .slice ga n gc, .slice ca C.length cc, .slice none 0 0, .slice none 0 0, .slice none 0 0, .slice none 0 0, .slice sa n sc, .int .i64 0]), .int .i64 5, .int .i64 (i : Int), .int .i64 kk] w fun e w' => SpP o B (gL n am) C ((sL n).set (n - 1) (z5 n)) [⟨65, ((n - 1 : Nat) : Int), -1, -1⟩] (.slice ga n gc) (.slice ca C.length cc) (.slice sa n sc) w e w' := by
  have n2 := h.n2
  have n26 := h.n26
  have hi := h.hi
  have hYl := sv_len2 hY
  have ow := hR.out.oS.own
  rw [hYl] at ow
  obtain ⟨gT, cap, e1, _, hgB, hgT⟩ := own_block ow (by omega)
  injection e1 with e1 e0 e2
  clear e0
  subst e1
  subst e2
  have fz := ow.frozenAt
  have t1 : (i : Int) < (n : Int) := by omega
  have t0 : (0 : Int) ≤ (i : Int) := by omega
  have gS : gT < w.heap.size + 1 := by omega
  obtain ⟨m, hm⟩ : ∃ m : Nat, Hid (n - 1 = m) := ⟨n - 1, rfl⟩
  have hmn : (n : Int) - 1 = (m : Int) := by have := hm.out; omega
  have hmm : m < n := by omega
  rw [hm.out]
  have hyi : m < Y.length := by omega
  have hyx := sv_at hY m hyi
  have c0 : w.cell? ⟨gT, m * 7 + 6, none⟩ = some (.slice Y[m].na Y[m].x.nexts.length Y[m].nc) := own_reads ow rfl _ _ (by rw [cellsF_get sv_len Y m 6 hyi (by decide)]; (try rw [← hold]); (first | rfl | (show some (Value.int .u64 Y[m].x.green) = _; rw [hyx]; rfl)))
  have o9 := (ow.stored (m * 7 + 6) (.slice none 0 0)).1
  rw [put1 sv_len hyi (by decide) (y := Y[m].nx0) rfl] at o9
  have y9 := only_of_set w gT (m * 7 + 6) (.slice none 0 0)
  have hR9 := hideG (hR.out.setS (Y' := Y.set m (Y[m].nx0)) rfl y9 (by rw [List.length_set, hYl]; exact o9) (sv_set hyi stt_nx0))
  have hY9 : (Y.set m (Y[m].nx0)).map (·.x) = (sL n).set m (z5 n) := by rw [List.map_set, hY]; congr 1; (first | (show Ts.mk Y[m].x.name Y[m].x.id _ Y[m].x.enter Y[m].x.during Y[m].x.leave Y[m].x.nexts = _; rw [hyx]; rfl) | (show Ts.mk Y[m].x.name Y[m].x.id Y[m].x.green Y[m].x.enter Y[m].x.during Y[m].x.leave [] = _; rw [hyx]; unfold z5; rw [hm.out]; rfl))
  have ho9 := y9.mono (T := fun q => (Value.slice ga n gc).ownBlock = some q ∨ (Value.slice ca C.length cc).ownBlock = some q ∨ (Value.slice (some ⟨gT, 0, none⟩) n sc).ownBlock = some q) (fun q e => .inr (.inr (by rw [e]; rfl)))
  clear ow o9 hR y9 hyx hY
  generalize Y[m].na = q1 at c0
  generalize Y[m].x.nexts.length = q2 at c0
  generalize Y[m].nc = q3 at c0
  have m1 : (m : Int) < (n : Int) := by omega
  have m0 : (0 : Int) ≤ (m : Int) := by omega
  go_enter Tryz.func7, Tryz.ntmps7
  go_wp2_with fail
  go_ret
  exact sp_fin hR9.out hY9 ho9 (by simp [World.setCell])
set_option maxRecDepth 100000 in
set_option maxHeartbeats 4000000 in
theorem spoil3 (n : Nat) (am V : Int) (i : Nat) (kk : Int) (o : Nat → Nat) (B : Nat) (C : List Cf) (Y : List Sv) (ga ca sa : Option Addr) (gc cc sc : Nat) (w : World) (h : Rg n am i) (hC : Cs n am V C) (hR : Hid (Rn o B w (gL n am) C Y (.slice ga n gc) (.slice ca C.length cc) (.slice sa n sc))) (hY : Y.map (·.x) = sL n) (m : Nat) (hm : m < C.length) (hk0 : 0 ≤ kk) (hkm : kk % (C.length : Int) = (m : Int)) :
    Calls Tryz.prog 7 #[(.agg #[.string ⟨#[114, 105, 110, 103]⟩, .slice ga n gc, .slice ca C.length cc, .slice none 0 0, .slice none 0 0, .slice none 0 0, .slice none 0 0, .slice sa n sc, .int .i64 0]), .int .i64 3, .int .i64 (i : Int), .int .i64 kk] w fun e w' => SpP o B (gL n am) (C.set m (cq3 am C[m])) (sL n) [⟨61, -1, C[m].b, C[m].a⟩] (.slice ga n gc) (.slice ca C.length cc) (.slice sa n sc) w e w' := by
  have n2 := h.n2
  have n26 := h.n26
  have hi := h.hi
  have owC := hR.out.oC.own
  obtain ⟨gC, capC, e1, _, hgBC, hgC⟩ := own_block owC (by omega)
  injection e1 with e1 e0 e2
  clear e0
  subst e1
  subst e2
  have fzC := owC.frozenAt
  have gSC : gC < w.heap.size + 1 := by omega
  have ow := hR.out.oG.own
  rw [gL_len] at ow
  obtain ⟨gG, cap, e1, _, hgB, hgG⟩ := own_block ow (by omega)
  injection e1 with e1 e0 e2
  clear e0
  subst e1
  subst e2
  have gS : gG < w.heap.size + 1 := by omega
  have m1 : (m : Int) < (C.length : Int) := by omega
  have m0 : (0 : Int) ≤ (m : Int) := by omega
  have m2 : (0 : Int) < (C.length : Int) := by omega
  obtain ⟨a, b, ea, eb, hab, hbn⟩ := pr_in hC.pr C[m] (List.getElem_mem hm)
  have b1 : (b : Int) < (n : Int) := by omega
  have b0 : (0 : Int) ≤ (b : Int) := by omega
  have hbg : b < (gL n am).length := by rw [gL_len]; exact hbn
  have neq : gG ≠ gC := by
    intro e
    have t1 := hR.out.oG.tag gG rfl
    have t2 := hR.out.oC.tag gC rfl
    rw [e, t2] at t1; cases t1
  have a1 : -9223372036854775808 ≤ am - 1 := by have := h.a3; omega
  have a2 : am - 1 ≤ 9223372036854775807 := by have := h.a60; omega
  have hC3 := hideG (⟨ea, eb, hm, hbg⟩ : C[m].a = (a : Int) ∧ C[m].b = (b : Int) ∧ m < C.length ∧ b < (gL n am).length)
  rw [ea, eb]
  clear ow owC ea eb
  go_enter Tryz.func7, Tryz.ntmps7
  go_wp2_with fail
  go_quiet (fail)
  have hB1 : Below w.heap.size w ((w.alloc (.cells #[.string ⟨#[114, 105, 110, 103]⟩, .slice (some ⟨gG, 0, none⟩) n gc, .slice (some ⟨gC, 0, none⟩) C.length cc, .slice none 0 0, .slice none 0 0, .slice none 0 0, .slice none 0 0, .slice sa n sc, .int .i64 0] 31)).drewN nq) := bel_drewN (bel1 _)
  generalize ((w.alloc (.cells #[.string ⟨#[114, 105, 110, 103]⟩, .slice (some ⟨gG, 0, none⟩) n gc, .slice (some ⟨gC, 0, none⟩) C.length cc, .slice none 0 0, .slice none 0 0, .slice none 0 0, .slice none 0 0, .slice sa n sc, .int .i64 0] 31)).drewN nq) = w1 at *
  have hR1 := hR.out.below hB1
  have owC := hR1.oC.own
  have ow := hR1.oG.own
  have fzC := owC.frozenAt
  obtain ⟨ea, eb, _, _⟩ := hC3.out
  have cA : w1.cell? ⟨gC, m * 4, none⟩ = some (.int .i64 (a : Int)) := own_reads owC rfl _ _ (by rw [show m * 4 = m * 4 + 0 by omega, cellsF_get cf_len C m 0 hm (by decide), ← ea]; rfl)
  have cB : w1.cell? ⟨gC, m * 4 + 1, none⟩ = some (.int .i64 (b : Int)) := own_reads owC rfl _ _ (by rw [cellsF_get cf_len C m 1 hm (by decide), ← eb]; rfl)
  have cD : w1.cell? ⟨gC, m * 4 + 3, none⟩ = some (.int .i64 C[m].ba) := own_reads owC rfl _ _ (by rw [cellsF_get cf_len C m 3 hm (by decide)]; rfl)
  have cG : w1.cell? ⟨gG, b * 5 + 3, none⟩ = some (.int .i64 am) := own_reads ow rfl _ _ (by rw [cellsF_get gp_len (gL n am) b 3 hbg (by decide), gp_at hbn hbg]; rfl)
  have o9 := (owC.stored (m * 4 + 3) (.int .i64 (am - 1))).1
  rw [put1 cf_len hm (by decide) (y := cq3 am C[m]) rfl] at o9
  have y9 := only_of_set w1 gC (m * 4 + 3) (.int .i64 (am - 1))
  have hR9 := hideG (hR1.setC (C' := C.set m (cq3 am C[m])) rfl y9 (by rw [List.length_set]; exact o9))
  have ho9 := hideG ((Only.of_below hB1).trans (y9.mono (T := fun q => (Value.slice (some ⟨gG, 0, none⟩) n gc).ownBlock = some q ∨ (Value.slice (some ⟨gC, 0, none⟩) C.length cc).ownBlock = some q ∨ (Value.slice sa n sc).ownBlock = some q) (fun q e => .inr (.inl (by rw [e]; rfl)))))
  have kS : Hid ((w1.setCell ⟨gC, m * 4 + 3, none⟩ (.int .i64 (am - 1))).cell? ⟨gC, m * 4 + 1, none⟩ = some (.int .i64 (b : Int)) ∧ (w1.setCell ⟨gC, m * 4 + 3, none⟩ (.int .i64 (am - 1))).cell? ⟨gC, m * 4, none⟩ = some (.int .i64 (a : Int)) ∧ gC < (w1.setCell ⟨gC, m * 4 + 3, none⟩ (.int .i64 (am - 1))).heap.size) := by
    refine ⟨own_reads hR9.out.oC.own rfl _ _ ?_, own_reads hR9.out.oC.own rfl _ _ ?_, (own_lt hR9.out.oC.own gC rfl).2⟩
    · rw [cellsF_get cf_len _ m 1 (by simpa using hm) (by decide), List.getElem_set_self, ← eb]; rfl
    · rw [show m * 4 = m * 4 + 0 by omega, cellsF_get cf_len _ m 0 (by simpa using hm) (by decide), List.getElem_set_self, ← ea]; rfl
  have g1 : gG < w1.heap.size := (own_lt ow gG rfl).2
  have g2 : gC < w1.heap.size := (own_lt owC gC rfl).2
  generalize C[m].ba = xd at cD
  clear ow owC o9 y9 ea eb hR1 hB1
  go_upto_region 17 with fail
  refine wp_region_noPanic ?_
  refine wp_region_held_drew (S := fun w' => w'.cell? ⟨gC, m * 4 + 1, none⟩ = some (.int .i64 (b : Int)) ∧ w'.cell? ⟨gC, m * 4, none⟩ = some (.int .i64 (a : Int)) ∧ gC < w'.heap.size) (by kernel_rfl) ?_ (fun hHeld => ?_)
  · exact kS.out
  clear kS cA cB cD cG
  have hR8 := hideG (hR9.out.below belD0)
  have ho8 := hideG (ho9.out.trans (Only.of_below belD0))
  clear hR9 ho9
  generalize (w1.setCell ⟨gC, m * 4 + 3, none⟩ (.int .i64 (am - 1))).drew = w2 at *
  refine tkY 0 ?_
  refine tkY 1 ?_
  refine tkY 2 ?_
  refine tkY 3 ?_
  refine tkY 4 ?_
  refine tkY 5 ?_
  refine tkY 6 ?_
  refine tkY 7 ?_
  refine tkY 8 ?_
  refine wpAnyH_ready (rs := [9]) (by kernel_rfl) (by simp) ?_
  refine (AllReadyH.cons (o := { dst := some 93, op := Op.buildSlice 33 1 #[(0, Operand.tmp 92)], type := 33, pos := "outright.go:194", after := #[{ on := 8, ground := Ground.data }], guard := none }) rfl (fun K hK => ?_) AllReadyH.nil)
  go_simp
  refine hK.out _ _ ⟨(World.cell?_alloc_lt _ _ _ hHeld.2.2).trans hHeld.1, (World.cell?_alloc_lt _ _ _ hHeld.2.2).trans hHeld.2.1, (by have := hHeld.2.2; simp; omega)⟩ (fun hHeld => ?_)
  clear hK K
  (try simp only [Act.put, List.setIfInBounds_toArray, List.set_cons_zero, List.set_cons_succ])
  refine tkY 10 ?_
  refine wpAnyH_done (by kernel_rfl) ?_ _
  refine NoPanic.normal ?_
  clear hHeld
  go_wp2_with fail
  go_ret
  exact sp_gen (hR8.out.below (bel1 _)) hY (ho8.out.trans (Only.of_below (bel1 _))) (Has.new _ _ _ rfl)
set_option maxRecDepth 100000 in
set_option maxHeartbeats 4000000 in
theorem spoil4 (n : Nat) (am V : Int) (i : Nat) (kk : Int) (o : Nat → Nat) (B : Nat) (C : List Cf) (Y : List Sv) (ga ca sa : Option Addr) (gc cc sc : Nat) (w : World) (h : Rg n am i) (hC : Cs n am V C) (hR : Hid (Rn o B w (gL n am) C Y (.slice ga n gc) (.slice ca C.length cc) (.slice sa n sc))) (hY : Y.map (·.x) = sL n) :
    Calls Tryz.prog 7 #[(.agg #[.string ⟨#[114, 105, 110, 103]⟩, .slice ga n gc, .slice ca C.length cc, .slice none 0 0, .slice none 0 0, .slice none 0 0, .slice none 0 0, .slice sa n sc, .int .i64 0]), .int .i64 4, .int .i64 (i : Int), .int .i64 kk] w fun e w' => SpP o B (gL n am) C ((sL n).set i (z4 n i)) [⟨60, i, ((min i ((i + 1) % n) : Nat) : Int), ((max i ((i + 1) % n) : Nat) : Int)⟩] (.slice ga n gc) (.slice ca C.length cc) (.slice sa n sc) w e w' := by
  have n2 := h.n2
  have n26 := h.n26
  have hi := h.hi
  have hYl := sv_len2 hY
  have ow := hR.out.oS.own
  rw [hYl] at ow
  obtain ⟨gT, cap, e1, _, hgB, hgT⟩ := own_block ow (by omega)
  injection e1 with e1 e0 e2
  clear e0
  subst e1
  subst e2
  have fz := ow.frozenAt
  have t1 : (i : Int) < (n : Int) := by omega
  have t0 : (0 : Int) ≤ (i : Int) := by omega
  have gS : gT < w.heap.size + 1 := by omega
  obtain ⟨on, onl⟩ := o_ne n2 hi
  have hoo : ((i : Int) + 1) % (n : Int) = (((i + 1) % n : Nat) : Int) := by rw [Int.natCast_emod]; rfl
  obtain ⟨oo, hox⟩ : ∃ x, Hid ((i + 1) % n = x) := ⟨_, rfl⟩
  rw [hox.out] at on onl hoo ⊢
  obtain ⟨mn, hmn⟩ : ∃ x, Hid (min i oo = x) := ⟨_, rfl⟩
  obtain ⟨mx, hmx⟩ : ∃ x, Hid (max i oo = x) := ⟨_, rfl⟩
  rw [hmn.out, hmx.out]
  obtain ⟨z, hz, hw3⟩ := pow_hid oo (by omega)
  obtain ⟨old, hold⟩ : ∃ x, Hid (((2 ^ i : Nat) : Int) = x) := ⟨_, rfl⟩
  obtain ⟨nw, hnw⟩ : ∃ x, Hid (((2 ^ i ||| 2 ^ oo : Nat) : Int) = x) := ⟨_, rfl⟩
  have hbt : bits .or .u64 old z = nw := by
    have p1 : 2 ^ i ≤ 2 ^ 26 := Nat.pow_le_pow_right (by decide) (by omega)
    have p2 : 2 ^ oo ≤ 2 ^ 26 := Nat.pow_le_pow_right (by decide) (by omega)
    rw [← hold.out, hz.out, ← hnw.out]
    exact bits_or_u64_nat _ _ (by omega) (by omega)
  have o1 : (oo : Int) < (n : Int) := by omega
  have o0 : (0 : Int) ≤ (oo : Int) := by omega
  have hyi : i < Y.length := by omega
  have hyx := sv_at hY i hyi
  have c0 : w.cell? ⟨gT, i * 7 + 2, none⟩ = some (.int .u64 old) := own_reads ow rfl _ _ (by rw [cellsF_get sv_len Y i 2 hyi (by decide)]; (try rw [← hold.out]); (first | rfl | (show some (Value.int .u64 Y[i].x.green) = _; rw [hyx]; rfl)))
  have o9 := (ow.stored (i * 7 + 2) (.int .u64 nw)).1
  rw [put1 sv_len hyi (by decide) (y := Y[i].gr nw) rfl] at o9
  have y9 := only_of_set w gT (i * 7 + 2) (.int .u64 nw)
  have hR9 := hideG (hR.out.setS (Y' := Y.set i (Y[i].gr nw)) rfl y9 (by rw [List.length_set, hYl]; exact o9) (sv_set hyi (stt_gr nw)))
  have hY9 : (Y.set i (Y[i].gr nw)).map (·.x) = (sL n).set i (z4 n i) := by rw [List.map_set, hY]; congr 1; (first | (show Ts.mk Y[i].x.name Y[i].x.id _ Y[i].x.enter Y[i].x.during Y[i].x.leave Y[i].x.nexts = _; rw [hyx]; unfold z4; rw [hox.out, hnw.out]; rfl) | (show Ts.mk Y[i].x.name Y[i].x.id Y[i].x.green Y[i].x.enter Y[i].x.during Y[i].x.leave [] = _; rw [hyx]; rfl))
  have ho9 := y9.mono (T := fun q => (Value.slice ga n gc).ownBlock = some q ∨ (Value.slice ca C.length cc).ownBlock = some q ∨ (Value.slice (some ⟨gT, 0, none⟩) n sc).ownBlock = some q) (fun q e => .inr (.inr (by rw [e]; rfl)))
  clear ow o9 hR y9 hyx hY
  have j1 : (0 : Int) ≤ (i : Int) + 1 := by omega
  have j2 : (0 : Int) < (n : Int) := by omega
  have hB7 : ∀ W : World, W = w.alloc (.cells #[.string ⟨#[114, 105, 110, 103]⟩, .slice ga n gc, .slice ca C.length cc, .slice none 0 0, .slice none 0 0, .slice none 0 0, .slice none 0 0, .slice (some ⟨gT, 0, none⟩) n sc, .int .i64 0] 31) → W.cell? ⟨w.heap.size, 7, none⟩ = some (.slice (some ⟨gT, 0, none⟩) n sc) := fun W e => by rw [e, World.cell?_alloc_new]; rfl
  have hB2 : ∀ W : World, W = w.alloc (.cells #[.string ⟨#[114, 105, 110, 103]⟩, .slice ga n gc, .slice ca C.length cc, .slice none 0 0, .slice none 0 0, .slice none 0 0, .slice none 0 0, .slice (some ⟨gT, 0, none⟩) n sc, .int .i64 0] 31) → W.cell? ⟨gT, i * 7 + 2, none⟩ = some (.int .u64 old) := fun W e => by rw [e, World.cell?_alloc_lt _ _ _ hgT]; exact c0
  have hB7 := hideG (hB7 _ rfl)
  have hB2 := hideG (hB2 _ rfl)
  go_enter Tryz.func7, Tryz.ntmps7
  go_wp2_with fail
  refine wp_region_noPanic ?_
  refine wp_region_E (S := fun w' => w'.cell? ⟨w.heap.size, 7, none⟩ = some (.slice (some ⟨gT, 0, none⟩) n sc) ∧ w'.cell? ⟨gT, i * 7 + 2, none⟩ = some (.int .u64 old)) (E := 14) (by kernel_rfl) ?_ (fun hHeld => ?_)
  · (try dsimp only)
    exact ⟨hB7.out, hB2.out⟩
  refine wpAnyE_take (i := 0) (oi := { dst := some 100, op := Op.fieldAddr 31 (Operand.tmp 4) 6, type := 0, pos := "outright.go:197", after := #[], guard := none }) (v := ?_) rfl (by kernel_rfl) (by kernel_rfl) (by kernel_rfl) (by kernel_rfl) (fun _ _ _ h => h) (Or.inl ⟨by rfl, ?_⟩) (by assumption) ?_
  rotate_left
  · intro wz hSz; (try dsimp only at hSz); go_simp; all_goals (with_reducible rfl)
  (try simp only [Act.put, List.setIfInBounds_toArray, List.set_cons_zero, List.set_cons_succ])
  refine wpAnyE_take (i := 1) (oi := { dst := some 101, op := Op.load 29 (Operand.tmp 100), type := 29, pos := "outright.go:197", after := #[{ on := 0, ground := Ground.data }], guard := none }) (v := ?_) rfl (by kernel_rfl) (by kernel_rfl) (by kernel_rfl) (by kernel_rfl) (fun _ _ _ h => h) (Or.inl ⟨by rfl, ?_⟩) (by assumption) ?_
  rotate_left
  · intro wz hSz; (try dsimp only at hSz); go_simp; all_goals (with_reducible rfl)
  (try simp only [Act.put, List.setIfInBounds_toArray, List.set_cons_zero, List.set_cons_succ])
  refine wpAnyE_take (i := 2) (oi := { dst := some 102, op := Op.move (Operand.tmp 2), type := 3, pos := "outright.go:197", after := #[], guard := none }) (v := ?_) rfl (by kernel_rfl) (by kernel_rfl) (by kernel_rfl) (by kernel_rfl) (fun _ _ _ h => h) (Or.inl ⟨by rfl, ?_⟩) (by assumption) ?_
  rotate_left
  · intro wz hSz; (try dsimp only at hSz); go_simp; all_goals (with_reducible rfl)
  (try simp only [Act.put, List.setIfInBounds_toArray, List.set_cons_zero, List.set_cons_succ])
  refine wpAnyE_take (i := 3) (oi := { dst := some 103, op := Op.fieldAddr 31 (Operand.tmp 4) 6, type := 0, pos := "outright.go:197", after := #[], guard := none }) (v := ?_) rfl (by kernel_rfl) (by kernel_rfl) (by kernel_rfl) (by kernel_rfl) (fun _ _ _ h => h) (Or.inl ⟨by rfl, ?_⟩) (by assumption) ?_
  rotate_left
  · intro wz hSz; (try dsimp only at hSz); go_simp; all_goals (with_reducible rfl)
  (try simp only [Act.put, List.setIfInBounds_toArray, List.set_cons_zero, List.set_cons_succ])
  refine wpAnyE_take (i := 4) (oi := { dst := some 104, op := Op.load 29 (Operand.tmp 103), type := 29, pos := "outright.go:197", after := #[{ on := 3, ground := Ground.data }], guard := none }) (v := ?_) rfl (by kernel_rfl) (by kernel_rfl) (by kernel_rfl) (by kernel_rfl) (fun _ _ _ h => h) (Or.inl ⟨by rfl, ?_⟩) (by assumption) ?_
  rotate_left
  · intro wz hSz; (try dsimp only at hSz); go_simp; all_goals (with_reducible rfl)
  (try simp only [Act.put, List.setIfInBounds_toArray, List.set_cons_zero, List.set_cons_succ])
  refine wpAnyE_take (i := 5) (oi := { dst := some 105, op := Op.move (Operand.tmp 2), type := 3, pos := "outright.go:197", after := #[], guard := none }) (v := ?_) rfl (by kernel_rfl) (by kernel_rfl) (by kernel_rfl) (by kernel_rfl) (fun _ _ _ h => h) (Or.inl ⟨by rfl, ?_⟩) (by assumption) ?_
  rotate_left
  · intro wz hSz; (try dsimp only at hSz); go_simp; all_goals (with_reducible rfl)
  (try simp only [Act.put, List.setIfInBounds_toArray, List.set_cons_zero, List.set_cons_succ])
  refine wpAnyE_take (i := 6) (oi := { dst := some 106, op := Op.indexAddr 29 (Operand.tmp 104) (Operand.tmp 105), type := 0, pos := "outright.go:197", after := #[{ on := 4, ground := Ground.data }, { on := 5, ground := Ground.data }], guard := none }) (v := ?_) rfl (by kernel_rfl) (by kernel_rfl) (by kernel_rfl) (by kernel_rfl) (fun _ _ _ h => h) (Or.inl ⟨by rfl, ?_⟩) (by assumption) ?_
  rotate_left
  · intro wz hSz; (try dsimp only at hSz); go_simp; all_goals (with_reducible rfl)
  (try simp only [Act.put, List.setIfInBounds_toArray, List.set_cons_zero, List.set_cons_succ])
  refine wpAnyE_take (i := 7) (oi := { dst := some 107, op := Op.fieldAddr 51 (Operand.tmp 106) 2, type := 0, pos := "outright.go:197", after := #[{ on := 6, ground := Ground.data }], guard := none }) (v := ?_) rfl (by kernel_rfl) (by kernel_rfl) (by kernel_rfl) (by kernel_rfl) (fun _ _ _ h => h) (Or.inl ⟨by rfl, ?_⟩) (by assumption) ?_
  rotate_left
  · intro wz hSz; (try dsimp only at hSz); go_simp; all_goals (with_reducible rfl)
  (try simp only [Act.put, List.setIfInBounds_toArray, List.set_cons_zero, List.set_cons_succ])
  refine wpAnyE_take (i := 8) (oi := { dst := some 108, op := Op.load 47 (Operand.tmp 107), type := 47, pos := "outright.go:197", after := #[{ on := 7, ground := Ground.data }], guard := none }) (v := ?_) rfl (by kernel_rfl) (by kernel_rfl) (by kernel_rfl) (by kernel_rfl) (fun _ _ _ h => h) (Or.inl ⟨by rfl, ?_⟩) (by assumption) ?_
  rotate_left
  · intro wz hSz; (try dsimp only at hSz); go_simp; all_goals (with_reducible rfl)
  (try simp only [Act.put, List.setIfInBounds_toArray, List.set_cons_zero, List.set_cons_succ])
  refine wpAnyE_take (i := 9) (oi := { dst := some 109, op := Op.move (Operand.tmp 12), type := 3, pos := "outright.go:197", after := #[], guard := none }) (v := ?_) rfl (by kernel_rfl) (by kernel_rfl) (by kernel_rfl) (by kernel_rfl) (fun _ _ _ h => h) (Or.inl ⟨by rfl, ?_⟩) (by assumption) ?_
  rotate_left
  · intro wz hSz; (try dsimp only at hSz); go_simp; all_goals (with_reducible rfl)
  (try simp only [Act.put, List.setIfInBounds_toArray, List.set_cons_zero, List.set_cons_succ])
  refine wpAnyE_take (i := 10) (oi := { dst := some 110, op := Op.binOp BinOp.shl 47 (Operand.const (Value.int IntKind.u64 1)) (Operand.tmp 109) 3, type := 47, pos := "outright.go:197", after := #[{ on := 9, ground := Ground.data }], guard := none }) (v := ?_) rfl (by kernel_rfl) (by kernel_rfl) (by kernel_rfl) (by kernel_rfl) (fun _ _ _ h => h) (Or.inl ⟨by rfl, ?_⟩) (by assumption) ?_
  rotate_left
  · intro wz hSz; (try dsimp only at hSz); go_simp; all_goals (with_reducible rfl)
  (try simp only [Act.put, List.setIfInBounds_toArray, List.set_cons_zero, List.set_cons_succ])
  refine wpAnyE_take (i := 11) (oi := { dst := some 111, op := Op.binOp BinOp.or 47 (Operand.tmp 108) (Operand.tmp 110) 47, type := 47, pos := "outright.go:197", after := #[{ on := 8, ground := Ground.data }, { on := 10, ground := Ground.data }], guard := none }) (v := ?_) rfl (by kernel_rfl) (by kernel_rfl) (by kernel_rfl) (by kernel_rfl) (fun _ _ _ h => h) (Or.inl ⟨by rfl, ?_⟩) (by assumption) ?_
  rotate_left
  · intro wz hSz; (try dsimp only at hSz); go_simp; all_goals (with_reducible rfl)
  (try simp only [Act.put, List.setIfInBounds_toArray, List.set_cons_zero, List.set_cons_succ])
  refine wpAnyE_one (i := 12) (o := { dst := some 112, op := Op.indexAddr 29 (Operand.tmp 101) (Operand.tmp 102), type := 0, pos := "outright.go:197", after := #[{ on := 1, ground := Ground.data }, { on := 2, ground := Ground.data }, { on := 0, ground := Ground.phase }, { on := 1, ground := Ground.phase }, { on := 2, ground := Ground.phase }, { on := 3, ground := Ground.phase }, { on := 4, ground := Ground.phase }, { on := 5, ground := Ground.phase }, { on := 6, ground := Ground.phase }, { on := 7, ground := Ground.phase }, { on := 8, ground := Ground.phase }, { on := 9, ground := Ground.phase }, { on := 10, ground := Ground.phase }, { on := 11, ground := Ground.phase }], guard := none }) (by kernel_rfl) rfl (by rfl) (fun K hK => ?_)
  go_simp
  refine hK.out _ _ hHeld (fun hHeld => ?_)
  clear hK K
  (try simp only [Act.put, List.setIfInBounds_toArray, List.set_cons_zero, List.set_cons_succ])
  refine wpAnyE_take (i := 13) (oi := { dst := some 113, op := Op.fieldAddr 51 (Operand.tmp 112) 2, type := 0, pos := "outright.go:197", after := #[{ on := 12, ground := Ground.data }, { on := 0, ground := Ground.phase }, { on := 1, ground := Ground.phase }, { on := 2, ground := Ground.phase }, { on := 3, ground := Ground.phase }, { on := 4, ground := Ground.phase }, { on := 5, ground := Ground.phase }, { on := 6, ground := Ground.phase }, { on := 7, ground := Ground.phase }, { on := 8, ground := Ground.phase }, { on := 9, ground := Ground.phase }, { on := 10, ground := Ground.phase }, { on := 11, ground := Ground.phase }], guard := none }) (v := ?_) rfl (by kernel_rfl) (by kernel_rfl) (by kernel_rfl) (by kernel_rfl) (fun _ _ _ h => h) (Or.inl ⟨by rfl, ?_⟩) (by assumption) ?_
  rotate_left
  · intro wz hSz; (try dsimp only at hSz); go_simp; all_goals (with_reducible rfl)
  (try simp only [Act.put, List.setIfInBounds_toArray, List.set_cons_zero, List.set_cons_succ])
  refine wpAnyE_last (o := { dst := none, op := Op.store 47 (Operand.tmp 113) (Operand.tmp 111), type := 0, pos := "outright.go:197", after := #[{ on := 13, ground := Ground.data }, { on := 11, ground := Ground.data }, { on := 0, ground := Ground.phase }, { on := 1, ground := Ground.phase }, { on := 2, ground := Ground.phase }, { on := 3, ground := Ground.phase }, { on := 4, ground := Ground.phase }, { on := 5, ground := Ground.phase }, { on := 6, ground := Ground.phase }, { on := 7, ground := Ground.phase }, { on := 8, ground := Ground.phase }, { on := 9, ground := Ground.phase }, { on := 10, ground := Ground.phase }, { on := 11, ground := Ground.phase }], guard := none }) (by kernel_rfl) rfl (by kernel_rfl) (by rfl) (fun K hK => ?_)
  obtain ⟨hq1, hq2⟩ := hHeld
  have fz2 := fz (i * 7 + 2)
  go_simp
  refine hK _ _ ?_
  refine NoPanic.normal ?_
  have ea : min (i : Int) (oo : Int) = (mn : Int) := by have := hmn.out; omega
  have eb : max (i : Int) (oo : Int) = (mx : Int) := by have := hmx.out; omega
  clear hw3 hbt hoo c0 hB7 hB2
  go_wp2_with fail
  go_ret
  exact sp_drew (sp_fin hR9.out hY9 ho9 (by simp [World.setCell]))
end Go.Proofs.YtjfieclmagbfbaaGreatDoor
