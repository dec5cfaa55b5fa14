import Derived.Test.YtddphepgcihdbaaGreatTeE
import Derived.Test.YtddphepgcihdbaaGreatTeD
namespace Go.Proofs.YtddphepgcihdbaaGreat
open Go.RowKit
set_option linter.unusedVariables false
set_option linter.unusedSimpArgs false

theorem RG.parts {w W : World} {t : Tt} {CB RC : Array Value} {Ls : List Rm} {g8 cap8 gS capS gX capX gH capH rcp : Nat} {ra : Option Addr} (h : RG w W CB RC ((((Ls.map Rm.own ++ [⟨49, 2, .slice (some ⟨g8, 0, none⟩) (t.D.length + 2) cap8, t.D.length + 2, cellsF Rm.dc Ls ++ room2⟩, ⟨47, 1, .slice ra t.D.length rcp, t.D.length, cellsF Rm.rc Ls⟩]) ++ [⟨52, 9, .slice (some ⟨gS, 0, none⟩) (t.S.length + 2) capS, t.S.length + 2, cellsF Sn.cs t.S ++ mkS⟩]) ++ [⟨54, 2, .slice (some ⟨gX, 0, none⟩) (t.X.length + 2) capX, t.X.length + 2, cellsF Ex.cs t.X ++ mk2⟩]) ++ [⟨56, 2, .slice (some ⟨gH, 0, none⟩) (t.H.length + 2) capH, t.H.length + 2, cellsF Sh.cs t.H ++ mk2⟩])) :
    (∀ r ∈ Ls, RIn W (w.heap.size + 2) r) ∧ W.ownsRow (w.heap.size + 2) 49 2 (.slice (some ⟨g8, 0, none⟩) (t.D.length + 2) cap8) (t.D.length + 2) (cellsF Rm.dc Ls ++ room2) ∧ W.ownsRow (w.heap.size + 2) 47 1 (.slice ra t.D.length rcp) t.D.length (cellsF Rm.rc Ls)
      ∧ W.ownsRow (w.heap.size + 2) 52 9 (.slice (some ⟨gS, 0, none⟩) (t.S.length + 2) capS) (t.S.length + 2) (cellsF Sn.cs t.S ++ mkS) ∧ W.ownsRow (w.heap.size + 2) 54 2 (.slice (some ⟨gX, 0, none⟩) (t.X.length + 2) capX) (t.X.length + 2) (cellsF Ex.cs t.X ++ mk2) ∧ W.ownsRow (w.heap.size + 2) 56 2 (.slice (some ⟨gH, 0, none⟩) (t.H.length + 2) capH) (t.H.length + 2) (cellsF Sh.cs t.H ++ mk2) := by
  obtain ⟨m1, m2, m3, m4, m5⟩ := mem4 (l := Ls.map Rm.own) (a := (⟨49, 2, .slice (some ⟨g8, 0, none⟩) (t.D.length + 2) cap8, t.D.length + 2, cellsF Rm.dc Ls ++ room2⟩ : Own)) (b := ⟨47, 1, .slice ra t.D.length rcp, t.D.length, cellsF Rm.rc Ls⟩) (c := ⟨52, 9, .slice (some ⟨gS, 0, none⟩) (t.S.length + 2) capS, t.S.length + 2, cellsF Sn.cs t.S ++ mkS⟩) (d := ⟨54, 2, .slice (some ⟨gX, 0, none⟩) (t.X.length + 2) capX, t.X.length + 2, cellsF Ex.cs t.X ++ mk2⟩) (e := ⟨56, 2, .slice (some ⟨gH, 0, none⟩) (t.H.length + 2) capH, t.H.length + 2, cellsF Sh.cs t.H ++ mk2⟩)
  exact ⟨h.inner (fun r hr => by simp only [List.mem_append]; left; left; left; left; exact List.mem_map.2 ⟨r, hr, rfl⟩), h.rows _ m1, h.rows _ m2, h.rows _ m3, h.rows _ m4, h.rows _ m5⟩
theorem mark_at2 {α : Type} {sz : Nat} {cs : α → List Value} (hl : ∀ x, (cs x).length = sz) {w : World} {base e g cap n n1 : Nat} {L : List α} {ms : List Value} (h : w.ownsRow base e sz (.slice (some ⟨g, 0, none⟩) n cap) n (cellsF cs L ++ ms)) (hn : n1 = L.length + 1) (j : Nat) (u : Value) (hu : ms[sz + j]? = some u) : w.cell? ⟨g, n1 * sz + j, none⟩ = some u := by
  have := mark_at hl h (sz + j) u hu
  rw [hn, Nat.succ_mul, Nat.add_assoc]
  exact this
set_option maxRecDepth 100000 in
set_option maxHeartbeats 4000000 in
theorem whole_any (t : Tt) (aD aS aX aH : Option Addr) (cD cS cX cH : Nat) (w W : World) (h0 : TR W t (.slice aD t.D.length cD) (.slice aS t.S.length cS) (.slice aX t.X.length cX) (.slice aH t.H.length cH)) {CB : Array Value} {Ls : List Rm} {g8 cap8 gS capS gX capX gH capH rcp : Nat} {ra : Option Addr} (hL : Ls.map (·.x) = t.D) (c1 : t.D.length ≤ cap8) (c2 : t.S.length ≤ capS) (c3 : t.X.length ≤ capX) (c4 : t.H.length ≤ capH)
    (h : RG w W CB #[.string t.nm, .slice (some ⟨g8, 0, none⟩) t.D.length cap8, .int .i64 t.w0, .int .i64 t.w1, .int .i64 t.w2, .int .i64 t.w3, .int .i64 t.w4, .int .i64 t.w5, .int .i64 t.w6, .slice (some ⟨gS, 0, none⟩) t.S.length capS, .slice (some ⟨gX, 0, none⟩) t.X.length capX, .slice (some ⟨gH, 0, none⟩) t.H.length capH, .slice (some ⟨g8, 0, none⟩) (t.D.length + 2) cap8, .slice ra t.D.length rcp, .slice (some ⟨gS, 0, none⟩) (t.S.length + 2) capS, .slice (some ⟨gX, 0, none⟩) (t.X.length + 2) capX, .slice (some ⟨gH, 0, none⟩) (t.H.length + 2) capH] ((((Ls.map Rm.own ++ [⟨49, 2, .slice (some ⟨g8, 0, none⟩) (t.D.length + 2) cap8, t.D.length + 2, cellsF Rm.dc Ls ++ room2⟩, ⟨47, 1, .slice ra t.D.length rcp, t.D.length, cellsF Rm.rc Ls⟩]) ++ [⟨52, 9, .slice (some ⟨gS, 0, none⟩) (t.S.length + 2) capS, t.S.length + 2, cellsF Sn.cs t.S ++ mkS⟩]) ++ [⟨54, 2, .slice (some ⟨gX, 0, none⟩) (t.X.length + 2) capX, t.X.length + 2, cellsF Ex.cs t.X ++ mk2⟩]) ++ [⟨56, 2, .slice (some ⟨gH, 0, none⟩) (t.H.length + 2) capH, t.H.length + 2, cellsF Sh.cs t.H ++ mk2⟩])) :
    Calls Tryz.prog 9 #[.pointer (some ⟨w.heap.size + 1, 0, none⟩), .agg #[.string t.nm, .slice aD t.D.length cD, .int .i64 t.w0, .int .i64 t.w1, .int .i64 t.w2, .int .i64 t.w3, .int .i64 t.w4, .int .i64 t.w5, .int .i64 t.w6, .slice aS t.S.length cS, .slice aX t.X.length cX, .slice aH t.H.length cH]] W fun e w' => e = .returned (.bool true) ∧ Below W.heap.size W w' := by
  obtain ⟨i1, i2, i3, i4, i5, i6⟩ := h.parts
  have hin : Hid (∀ r ∈ Ls, RIn W (w.heap.size + 2) r) := i1
  have ow : Hid (W.ownsRow (w.heap.size + 2) 47 1 (.slice ra t.D.length rcp) t.D.length (cellsF Rm.rc Ls)) := i3
  have hlen : Hid (Ls.length = t.D.length) := by show _ = _; rw [← hL, List.length_map]
  have hrm := h.room
  have hro := hrm.1
  have dl := h0.dl
  have sl := h0.sl
  have xl := h0.xl
  have hl := h0.hl
  have rl : Hid (∀ r ∈ Ls, r.x.rows.length ≤ 8796093021952) := fun r hr => h0.rl _ (by rw [← hL]; exact List.mem_map.2 ⟨r, hr, rfl⟩)
  have hcp : Hid (∀ r ∈ Ls, r.x.rows.length + 2 ≤ r.c) := by
    intro r hr
    rcases (i1 r hr).2 with ⟨e, _⟩ | ⟨g, cap, cur, e, _, _, e4⟩
    · cases e
    · injection e with _ _ e3
      have := e4.1
      omega
  have gD : DayR W t.D (some ⟨g8, 0, none⟩) := by
    rcases Nat.eq_zero_or_pos t.D.length with e | e
    · exact .inl e
    · refine .inr ⟨g8, 0, rfl, (own_lt i2 g8 rfl).2, fun i hi => ?_⟩
      have hi' : i < Ls.length := by rw [hlen.out]; exact hi
      have hx : t.D[i] = Ls[i].x := by simp only [← hL, List.getElem_map]
      have hlt : ∀ j, j < 2 → i * 2 + j < (cellsF Rm.dc Ls).length := fun j hj => by rw [cellsF_len dc_len]; omega
      have hce : ∀ j u, j < 2 → (Rm.dc Ls[i])[j]? = some u → W.cell? ⟨g8, i * 2 + j, none⟩ = some u := fun j u hj hu => own_cell i2 _ u (by rw [List.getElem?_append_left (hlt j hj), cellsF_get dc_len Ls i j hi' hj]; exact hu)
      rw [hx]
      refine ⟨some ⟨Ls[i].g, 0, none⟩, Ls[i].c, by simpa using hce 0 _ (by omega) rfl, by simpa using hce 1 _ (by omega) rfl, fl_pre rw_len (i1 _ (List.getElem_mem hi')) rfl (by have := hcp.out _ (List.getElem_mem hi'); omega)⟩
  have c32 : ∀ W', Below W.heap.size W W' → Calls Tryz.prog 22 #[.agg #[.string t.nm, .slice (some ⟨g8, 0, none⟩) t.D.length cap8, .int .i64 t.w0, .int .i64 t.w1, .int .i64 t.w2, .int .i64 t.w3, .int .i64 t.w4, .int .i64 t.w5, .int .i64 t.w6, .slice (some ⟨gS, 0, none⟩) t.S.length capS, .slice (some ⟨gX, 0, none⟩) t.X.length capX, .slice (some ⟨gH, 0, none⟩) t.H.length capH], .agg #[.string t.nm, .slice aD t.D.length cD, .int .i64 t.w0, .int .i64 t.w1, .int .i64 t.w2, .int .i64 t.w3, .int .i64 t.w4, .int .i64 t.w5, .int .i64 t.w6, .slice aS t.S.length cS, .slice aX t.X.length cX, .slice aH t.H.length cH]] W' fun e w' => e = .returned (.bool true) ∧ Below W'.heap.size W' w' := fun W' hb => same_any t aD aS aX aH (some ⟨g8, 0, none⟩) (some ⟨gS, 0, none⟩) (some ⟨gX, 0, none⟩) (some ⟨gH, 0, none⟩) cD cS cX cH cap8 capS capX capH W' (h0.below hb) (gD.below hb) ((fl_pre sn_len i4 rfl c2).below hb) ((fl_pre ex_len i5 rfl c3).below hb) ((fl_pre sh_len i6 rfl c4).below hb)
  obtain ⟨D2, hD2⟩ : ∃ x, x = t.D.length + 2 := ⟨_, rfl⟩
  obtain ⟨S2, hS2⟩ : ∃ x, x = t.S.length + 2 := ⟨_, rfl⟩
  obtain ⟨X2, hX2⟩ : ∃ x, x = t.X.length + 2 := ⟨_, rfl⟩
  obtain ⟨H2, hH2⟩ : ∃ x, x = t.H.length + 2 := ⟨_, rfl⟩
  obtain ⟨D1, hD1⟩ : ∃ x, x = t.D.length + 1 := ⟨_, rfl⟩
  obtain ⟨S1, hS1⟩ : ∃ x, x = t.S.length + 1 := ⟨_, rfl⟩
  obtain ⟨X1, hX1⟩ : ∃ x, x = t.X.length + 1 := ⟨_, rfl⟩
  obtain ⟨H1, hH1⟩ : ∃ x, x = t.H.length + 1 := ⟨_, rfl⟩
  have d1 : W.cell? ⟨g8, t.D.length * 2, none⟩ = some (.string ⟨#[114, 111, 111, 109]⟩) := by have := mark_at dc_len i2 0 _ rfl; rw [hlen.out] at this; exact this
  have d2 : W.cell? ⟨g8, D1 * 2, none⟩ = some (.string ⟨#[114, 111, 111, 109]⟩) := by have := mark_at2 dc_len i2 (n1 := D1) (by rw [hlen.out]; exact hD1) 0 _ rfl; exact this
  have s1 : W.cell? ⟨gS, t.S.length * 9, none⟩ = some (.int .i64 44) := mark_at sn_len i4 0 _ rfl
  have s2 : W.cell? ⟨gS, S1 * 9, none⟩ = some (.int .i64 44) := mark_at2 sn_len i4 (n1 := S1) hS1 0 _ rfl
  have x1 : W.cell? ⟨gX, t.X.length * 2 + 1, none⟩ = some (.int .i64 44) := mark_at ex_len i5 1 _ rfl
  have x2 : W.cell? ⟨gX, X1 * 2 + 1, none⟩ = some (.int .i64 44) := mark_at2 ex_len i5 (n1 := X1) hX1 1 _ rfl
  have y1 : W.cell? ⟨gH, t.H.length * 2 + 1, none⟩ = some (.int .i64 44) := mark_at sh_len i6 1 _ rfl
  have y2 : W.cell? ⟨gH, H1 * 2 + 1, none⟩ = some (.int .i64 44) := mark_at2 sh_len i6 (n1 := H1) hH1 1 _ rfl
  have l8 := (own_lt i2 g8 rfl).2
  have lS := (own_lt i4 gS rfl).2
  have lX := (own_lt i5 gX rfl).2
  have lH := (own_lt i6 gH rfl).2
  rw [← hD2, ← hS2, ← hX2, ← hH2] at hrm
  clear i1 i2 i3 i4 i5 i6 h gD hL
  have bD1 : (t.D.length : Int) + 1 = (D1 : Int) := by omega
  have bS1 : (t.S.length : Int) + 1 = (S1 : Int) := by omega
  have bX1 : (t.X.length : Int) + 1 = (X1 : Int) := by omega
  have bH1 : (t.H.length : Int) + 1 = (H1 : Int) := by omega
  have aD1 : (D1 : Int) < (D2 : Int) := by omega
  have aS1 : (S1 : Int) < (S2 : Int) := by omega
  have aX1 : (X1 : Int) < (X2 : Int) := by omega
  have aH1 : (H1 : Int) < (H2 : Int) := by omega
  have aD0 : (t.D.length : Int) < (D2 : Int) := by omega
  have aS0 : (t.S.length : Int) < (S2 : Int) := by omega
  have aX0 : (t.X.length : Int) < (X2 : Int) := by omega
  have aH0 : (t.H.length : Int) < (H2 : Int) := by omega
  have wD : IntKind.i64.wrap (D1 : Int) = (D1 : Int) := wrap64 _ (by omega)
  have wH : IntKind.i64.wrap (H1 : Int) = (H1 : Int) := wrap64 _ (by omega)
  have cD1 : D1 ≤ 3518437208782 := by omega
  have cS1 : S1 ≤ 1954687338212 := by omega
  have cX1 : X1 ≤ 8796093021953 := by omega
  have cH1 : H1 ≤ 8796093021953 := by omega
  have nD : (0 : Int) ≤ (D1 : Int) := by omega
  have nS : (0 : Int) ≤ (S1 : Int) := by omega
  have nX : (0 : Int) ≤ (X1 : Int) := by omega
  have nH : (0 : Int) ≤ (H1 : Int) := by omega
  clear hD2 hS2 hX2 hH2 hD1 hS1 hX1 hH1 h0
  go_enter Tryz.func9, Tryz.ntmps9
  go_wp2
  have HY : Has (W.alloc (.cells #[.string t.nm, .slice aD t.D.length cD, .int .i64 t.w0, .int .i64 t.w1, .int .i64 t.w2, .int .i64 t.w3, .int .i64 t.w4, .int .i64 t.w5, .int .i64 t.w6, .slice aS t.S.length cS, .slice aX t.X.length cX, .slice aH t.H.length cH] 28)) W.heap.size #[.string t.nm, .slice aD t.D.length cD, .int .i64 t.w0, .int .i64 t.w1, .int .i64 t.w2, .int .i64 t.w3, .int .i64 t.w4, .int .i64 t.w5, .int .i64 t.w6, .slice aS t.S.length cS, .slice aX t.X.length cX, .slice aH t.H.length cH] := Has.new _ _ _ rfl
  have HR : Has (W.alloc (.cells #[.string t.nm, .slice aD t.D.length cD, .int .i64 t.w0, .int .i64 t.w1, .int .i64 t.w2, .int .i64 t.w3, .int .i64 t.w4, .int .i64 t.w5, .int .i64 t.w6, .slice aS t.S.length cS, .slice aX t.X.length cX, .slice aH t.H.length cH] 28)) (w.heap.size + 1) #[.string t.nm, .slice (some ⟨g8, 0, none⟩) t.D.length cap8, .int .i64 t.w0, .int .i64 t.w1, .int .i64 t.w2, .int .i64 t.w3, .int .i64 t.w4, .int .i64 t.w5, .int .i64 t.w6, .slice (some ⟨gS, 0, none⟩) t.S.length capS, .slice (some ⟨gX, 0, none⟩) t.X.length capX, .slice (some ⟨gH, 0, none⟩) t.H.length capH, .slice (some ⟨g8, 0, none⟩) D2 cap8, .slice ra t.D.length rcp, .slice (some ⟨gS, 0, none⟩) S2 capS, .slice (some ⟨gX, 0, none⟩) X2 capX, .slice (some ⟨gH, 0, none⟩) H2 capH] := hrm.alloc _
  have HB : Below W.heap.size W (W.alloc (.cells #[.string t.nm, .slice aD t.D.length cD, .int .i64 t.w0, .int .i64 t.w1, .int .i64 t.w2, .int .i64 t.w3, .int .i64 t.w4, .int .i64 t.w5, .int .i64 t.w6, .slice aS t.S.length cS, .slice aX t.X.length cX, .slice aH t.H.length cH] 28)) := bel1
  generalize (W.alloc (.cells #[.string t.nm, .slice aD t.D.length cD, .int .i64 t.w0, .int .i64 t.w1, .int .i64 t.w2, .int .i64 t.w3, .int .i64 t.w4, .int .i64 t.w5, .int .i64 t.w6, .slice aS t.S.length cS, .slice aX t.X.length cX, .slice aH t.H.length cH] 28)) = Y at *
  go_loopg [5, 6] t.D.length (fun gk s5 s6 wr => ∃ k : Nat, k + gk = t.D.length ∧ s5 = .int .i64 (k : Int) ∧ Y = wr)
  case atStart => exact ⟨0, by omega, rfl, rfl⟩
  case round =>
    obtain ⟨k, hk, rfl, rfl⟩ := hrel
    obtain ⟨_, q, _⟩ := id HY
    obtain ⟨_, rq, _⟩ := id HR
    by_cases hlt : k < t.D.length
    · have hk2 : k < Ls.length := by rw [hlen.out]; exact hlt
      obtain ⟨g, cap, e, _, _, hgl⟩ := own_block ow.out (by omega)
      injection e with e1 _ e3
      subst e1
      subst e3
      have hmem := List.getElem_mem hk2
      have p0 : Y.cell? ⟨g, k, none⟩ = some (.slice (some ⟨Ls[k].g, 0, none⟩) (Ls[k].x.rows.length + 2) Ls[k].c) := by
        rw [HB.cell (p := ⟨g, _, none⟩) hgl]
        refine own_cell ow.out _ _ ?_
        have := cellsF_get rc_len Ls k 0 hk2 (by decide)
        rw [Nat.mul_one] at this
        exact this
      have hr := hin.out _ hmem
      have lr := rl.out _ hmem
      have hrg := (rin_lt hr).2
      obtain ⟨m2, hm2⟩ : ∃ x, x = Ls[k].x.rows.length + 2 := ⟨_, rfl⟩
      obtain ⟨n1, hn1⟩ : ∃ x, x = Ls[k].x.rows.length + 1 := ⟨_, rfl⟩
      have v0 := (HB.cell (p := ⟨Ls[k].g, _, none⟩) hrg).trans (mark_at rw_len hr 0 _ rfl)
      have v1 := (HB.cell (p := ⟨Ls[k].g, _, none⟩) hrg).trans (mark_at rw_len hr 1 _ rfl)
      have v2 := (HB.cell (p := ⟨Ls[k].g, _, none⟩) hrg).trans (mark_at2 rw_len hr (n1 := n1) hn1 0 _ rfl)
      have v3 := (HB.cell (p := ⟨Ls[k].g, _, none⟩) hrg).trans (mark_at2 rw_len hr (n1 := n1) hn1 1 _ rfl)
      simp only [Nat.add_zero] at v0 v2
      rw [← hm2] at p0
      have t1 : (k : Int) < (t.D.length : Int) := by omega
      have t0 : (0 : Int) ≤ (k : Int) := by omega
      have u1 : (m2 : Int) - 2 = (Ls[k].x.rows.length : Int) := by omega
      have u2 : (m2 : Int) - 1 = (n1 : Int) := by omega
      have u3 : (Ls[k].x.rows.length : Int) < (m2 : Int) := by omega
      have u4 : (n1 : Int) < (m2 : Int) := by omega
      have u5 : (0 : Int) ≤ (Ls[k].x.rows.length : Int) := by omega
      have u6 : (0 : Int) ≤ (n1 : Int) := by omega
      have e40 := fun X => eq40 X 0 44
      have m2b : m2 ≤ 8796093021954 := by omega
      have n1b : n1 ≤ 8796093021953 := by omega
      clear hr hm2 hn1 hmem
      generalize Ls[k].x.rows.length = n at *
      generalize Ls[k].g = rg at *
      generalize Ls[k].c = rcc at *
      go_wp2
      go_roundg (gk - 1)
      case measure => go_light; omega
      case rel => exact ⟨k + 1, by omega, by go_num, rfl⟩
    · obtain rfl : k = t.D.length := by omega
      have t1 : ¬ (t.D.length : Int) < (t.D.length : Int) := by omega
      replace d1 := (HB.cell (p := ⟨g8, _, none⟩) l8).trans d1
      replace d2 := (HB.cell (p := ⟨g8, _, none⟩) l8).trans d2
      replace s1 := (HB.cell (p := ⟨gS, _, none⟩) lS).trans s1
      replace s2 := (HB.cell (p := ⟨gS, _, none⟩) lS).trans s2
      replace x1 := (HB.cell (p := ⟨gX, _, none⟩) lX).trans x1
      replace x2 := (HB.cell (p := ⟨gX, _, none⟩) lX).trans x2
      replace y1 := (HB.cell (p := ⟨gH, _, none⟩) lH).trans y1
      replace y2 := (HB.cell (p := ⟨gH, _, none⟩) lH).trans y2
      go_wp2
      refine wp_region_noPanic ?_
      refine wp_region_held_drew (S := fun w' => Below Y.heap.size Y w' ∧ (∀ i, w'.cell? ⟨w.heap.size + 1, i, none⟩ = (#[.string t.nm, .slice (some ⟨g8, 0, none⟩) t.D.length cap8, .int .i64 t.w0, .int .i64 t.w1, .int .i64 t.w2, .int .i64 t.w3, .int .i64 t.w4, .int .i64 t.w5, .int .i64 t.w6, .slice (some ⟨gS, 0, none⟩) t.S.length capS, .slice (some ⟨gX, 0, none⟩) t.X.length capX, .slice (some ⟨gH, 0, none⟩) t.H.length capH, .slice (some ⟨g8, 0, none⟩) D2 cap8, .slice ra t.D.length rcp, .slice (some ⟨gS, 0, none⟩) S2 capS, .slice (some ⟨gX, 0, none⟩) X2 capX, .slice (some ⟨gH, 0, none⟩) H2 capH] : Array Value)[i]?) ∧ (∀ i, w'.cell? ⟨W.heap.size, i, none⟩ = (#[.string t.nm, .slice aD t.D.length cD, .int .i64 t.w0, .int .i64 t.w1, .int .i64 t.w2, .int .i64 t.w3, .int .i64 t.w4, .int .i64 t.w5, .int .i64 t.w6, .slice aS t.S.length cS, .slice aX t.X.length cX, .slice aH t.H.length cH] : Array Value)[i]?) ∧ w'.cell? ⟨gH, t.H.length * 2 + 1, none⟩ = some (.int .i64 44) ∧ w'.cell? ⟨gH, H1 * 2 + 1, none⟩ = some (.int .i64 44)) (by kernel_rfl) ?_ (fun hHeld => ?_)
      · (try dsimp only)
        exact ⟨(Below.refl _ _).drew, HR.2.1, HY.2.1, y1, y2⟩
      refine wpAnyH_take (i := 0) (oi := { dst := some 117, op := Op.move (Operand.tmp 0), type := 29, pos := "law.go:67", after := #[], guard := none }) (v := ?_) rfl (by kernel_rfl) (by kernel_rfl) (by kernel_rfl) (fun _ _ _ h => h) (Or.inl ⟨by rfl, ?_⟩) (by assumption) ?_
      rotate_left
      · intro wz hSz; (try dsimp only at hSz); go_simp; all_goals (with_reducible rfl)
      (try simp only [Act.put, List.setIfInBounds_toArray, List.set_cons_zero, List.set_cons_succ])
      refine wpAnyH_take (i := 1) (oi := { dst := some 118, op := Op.nilCheck (Operand.tmp 117), type := 0, pos := "law.go:67", after := #[{ on := 0, ground := Ground.data }], guard := none }) (v := ?_) rfl (by kernel_rfl) (by kernel_rfl) (by kernel_rfl) (fun _ _ _ h => h) (Or.inl ⟨by rfl, ?_⟩) (by assumption) ?_
      rotate_left
      · intro wz hSz; (try dsimp only at hSz); go_simp; all_goals (with_reducible rfl)
      (try simp only [Act.put, List.setIfInBounds_toArray, List.set_cons_zero, List.set_cons_succ])
      refine wpAnyH_take (i := 2) (oi := { dst := some 119, op := Op.fieldAddr 36 (Operand.tmp 118) 5, type := 0, pos := "law.go:67", after := #[{ on := 1, ground := Ground.data }], guard := none }) (v := ?_) rfl (by kernel_rfl) (by kernel_rfl) (by kernel_rfl) (fun _ _ _ h => h) (Or.inl ⟨by rfl, ?_⟩) (by assumption) ?_
      rotate_left
      · intro wz hSz; (try dsimp only at hSz); go_simp; all_goals (with_reducible rfl)
      (try simp only [Act.put, List.setIfInBounds_toArray, List.set_cons_zero, List.set_cons_succ])
      refine wpAnyH_take (i := 3) (oi := { dst := some 120, op := Op.load 26 (Operand.tmp 119), type := 26, pos := "law.go:67", after := #[{ on := 2, ground := Ground.data }], guard := none }) (v := ?_) rfl (by kernel_rfl) (by kernel_rfl) (by kernel_rfl) (fun _ _ _ h => h) (Or.inl ⟨by rfl, ?_⟩) (by assumption) ?_
      rotate_left
      · intro wz hSz; (try dsimp only at hSz); go_simp; all_goals (with_reducible rfl)
      (try simp only [Act.put, List.setIfInBounds_toArray, List.set_cons_zero, List.set_cons_succ])
      refine wpAnyH_take (i := 4) (oi := { dst := some 121, op := Op.move (Operand.tmp 7), type := 3, pos := "law.go:67", after := #[], guard := none }) (v := ?_) rfl (by kernel_rfl) (by kernel_rfl) (by kernel_rfl) (fun _ _ _ h => h) (Or.inl ⟨by rfl, ?_⟩) (by assumption) ?_
      rotate_left
      · intro wz hSz; (try dsimp only at hSz); go_simp; all_goals (with_reducible rfl)
      (try simp only [Act.put, List.setIfInBounds_toArray, List.set_cons_zero, List.set_cons_succ])
      refine wpAnyH_take (i := 5) (oi := { dst := some 122, op := Op.indexAddr 26 (Operand.tmp 120) (Operand.tmp 121), type := 0, pos := "law.go:67", after := #[{ on := 3, ground := Ground.data }, { on := 4, ground := Ground.data }], guard := none }) (v := ?_) rfl (by kernel_rfl) (by kernel_rfl) (by kernel_rfl) (fun _ _ _ h => h) (Or.inl ⟨by rfl, ?_⟩) (by assumption) ?_
      rotate_left
      · intro wz hSz; (try dsimp only at hSz); go_simp; all_goals (with_reducible rfl)
      (try simp only [Act.put, List.setIfInBounds_toArray, List.set_cons_zero, List.set_cons_succ])
      refine wpAnyH_take (i := 6) (oi := { dst := some 123, op := Op.fieldAddr 56 (Operand.tmp 122) 1, type := 0, pos := "law.go:67", after := #[{ on := 5, ground := Ground.data }], guard := none }) (v := ?_) rfl (by kernel_rfl) (by kernel_rfl) (by kernel_rfl) (fun _ _ _ h => h) (Or.inl ⟨by rfl, ?_⟩) (by assumption) ?_
      rotate_left
      · intro wz hSz; (try dsimp only at hSz); go_simp; all_goals (with_reducible rfl)
      (try simp only [Act.put, List.setIfInBounds_toArray, List.set_cons_zero, List.set_cons_succ])
      refine wpAnyH_take (i := 7) (oi := { dst := some 124, op := Op.load 3 (Operand.tmp 123), type := 3, pos := "law.go:67", after := #[{ on := 6, ground := Ground.data }], guard := none }) (v := ?_) rfl (by kernel_rfl) (by kernel_rfl) (by kernel_rfl) (fun _ _ _ h => h) (Or.inl ⟨by rfl, ?_⟩) (by assumption) ?_
      rotate_left
      · intro wz hSz; (try dsimp only at hSz); go_simp; all_goals (with_reducible rfl)
      (try simp only [Act.put, List.setIfInBounds_toArray, List.set_cons_zero, List.set_cons_succ])
      refine wpAnyH_take (i := 8) (oi := { dst := some 125, op := Op.binOp BinOp.eql 3 (Operand.tmp 124) (Operand.const (Value.int IntKind.i64 44)) 3, type := 4, pos := "law.go:67", after := #[{ on := 7, ground := Ground.data }], guard := none }) (v := ?_) rfl (by kernel_rfl) (by kernel_rfl) (by kernel_rfl) (fun _ _ _ h => h) (Or.inl ⟨by rfl, ?_⟩) (by assumption) ?_
      rotate_left
      · intro wz hSz; (try dsimp only at hSz); go_simp; all_goals (with_reducible rfl)
      (try simp only [Act.put, List.setIfInBounds_toArray, List.set_cons_zero, List.set_cons_succ])
      refine wpAnyH_take (i := 9) (oi := { dst := some 126, op := Op.move (Operand.tmp 125), type := 4, pos := "law.go:67", after := #[{ on := 8, ground := Ground.data }], guard := none }) (v := ?_) rfl (by kernel_rfl) (by kernel_rfl) (by kernel_rfl) (fun _ _ _ h => h) (Or.inl ⟨by rfl, ?_⟩) (by assumption) ?_
      rotate_left
      · intro wz hSz; (try dsimp only at hSz); go_simp; all_goals (with_reducible rfl)
      (try simp only [Act.put, List.setIfInBounds_toArray, List.set_cons_zero, List.set_cons_succ])
      refine wpAnyH_take (i := 10) (oi := { dst := some 127, op := Op.move (Operand.tmp 0), type := 29, pos := "law.go:67", after := #[{ on := 9, ground := Ground.guard }], guard := some (9, true) }) (v := ?_) rfl (by kernel_rfl) (by kernel_rfl) (by kernel_rfl) (fun _ _ _ h => h) (Or.inl ⟨by rfl, ?_⟩) (by assumption) ?_
      rotate_left
      · intro wz hSz; (try dsimp only at hSz); go_simp; all_goals (with_reducible rfl)
      (try simp only [Act.put, List.setIfInBounds_toArray, List.set_cons_zero, List.set_cons_succ])
      refine wpAnyH_take (i := 11) (oi := { dst := some 128, op := Op.nilCheck (Operand.tmp 127), type := 0, pos := "law.go:67", after := #[{ on := 10, ground := Ground.data }, { on := 9, ground := Ground.guard }], guard := some (9, true) }) (v := ?_) rfl (by kernel_rfl) (by kernel_rfl) (by kernel_rfl) (fun _ _ _ h => h) (Or.inl ⟨by rfl, ?_⟩) (by assumption) ?_
      rotate_left
      · intro wz hSz; (try dsimp only at hSz); go_simp; all_goals (with_reducible rfl)
      (try simp only [Act.put, List.setIfInBounds_toArray, List.set_cons_zero, List.set_cons_succ])
      refine wpAnyH_take (i := 12) (oi := { dst := some 129, op := Op.fieldAddr 36 (Operand.tmp 128) 5, type := 0, pos := "law.go:67", after := #[{ on := 11, ground := Ground.data }, { on := 9, ground := Ground.guard }], guard := some (9, true) }) (v := ?_) rfl (by kernel_rfl) (by kernel_rfl) (by kernel_rfl) (fun _ _ _ h => h) (Or.inl ⟨by rfl, ?_⟩) (by assumption) ?_
      rotate_left
      · intro wz hSz; (try dsimp only at hSz); go_simp; all_goals (with_reducible rfl)
      (try simp only [Act.put, List.setIfInBounds_toArray, List.set_cons_zero, List.set_cons_succ])
      refine wpAnyH_take (i := 13) (oi := { dst := some 130, op := Op.load 26 (Operand.tmp 129), type := 26, pos := "law.go:67", after := #[{ on := 12, ground := Ground.data }, { on := 9, ground := Ground.guard }], guard := some (9, true) }) (v := ?_) rfl (by kernel_rfl) (by kernel_rfl) (by kernel_rfl) (fun _ _ _ h => h) (Or.inl ⟨by rfl, ?_⟩) (by assumption) ?_
      rotate_left
      · intro wz hSz; (try dsimp only at hSz); go_simp; all_goals (with_reducible rfl)
      (try simp only [Act.put, List.setIfInBounds_toArray, List.set_cons_zero, List.set_cons_succ])
      refine wpAnyH_take (i := 14) (oi := { dst := some 131, op := Op.move (Operand.tmp 7), type := 3, pos := "law.go:67", after := #[{ on := 9, ground := Ground.guard }], guard := some (9, true) }) (v := ?_) rfl (by kernel_rfl) (by kernel_rfl) (by kernel_rfl) (fun _ _ _ h => h) (Or.inl ⟨by rfl, ?_⟩) (by assumption) ?_
      rotate_left
      · intro wz hSz; (try dsimp only at hSz); go_simp; all_goals (with_reducible rfl)
      (try simp only [Act.put, List.setIfInBounds_toArray, List.set_cons_zero, List.set_cons_succ])
      refine wpAnyH_take (i := 15) (oi := { dst := some 132, op := Op.binOp BinOp.add 3 (Operand.tmp 131) (Operand.const (Value.int IntKind.i64 1)) 3, type := 3, pos := "law.go:67", after := #[{ on := 14, ground := Ground.data }, { on := 9, ground := Ground.guard }], guard := some (9, true) }) (v := ?_) rfl (by kernel_rfl) (by kernel_rfl) (by kernel_rfl) (fun _ _ _ h => h) (Or.inl ⟨by rfl, ?_⟩) (by assumption) ?_
      rotate_left
      · intro wz hSz; (try dsimp only at hSz); go_simp; all_goals (with_reducible rfl)
      (try simp only [Act.put, List.setIfInBounds_toArray, List.set_cons_zero, List.set_cons_succ])
      refine wpAnyH_take (i := 16) (oi := { dst := some 133, op := Op.indexAddr 26 (Operand.tmp 130) (Operand.tmp 132), type := 0, pos := "law.go:67", after := #[{ on := 13, ground := Ground.data }, { on := 15, ground := Ground.data }, { on := 9, ground := Ground.guard }], guard := some (9, true) }) (v := ?_) rfl (by kernel_rfl) (by kernel_rfl) (by kernel_rfl) (fun _ _ _ h => h) (Or.inl ⟨by rfl, ?_⟩) (by assumption) ?_
      rotate_left
      · intro wz hSz; (try dsimp only at hSz); go_simp; all_goals (with_reducible rfl)
      (try simp only [Act.put, List.setIfInBounds_toArray, List.set_cons_zero, List.set_cons_succ])
      refine wpAnyH_take (i := 17) (oi := { dst := some 134, op := Op.fieldAddr 56 (Operand.tmp 133) 1, type := 0, pos := "law.go:67", after := #[{ on := 16, ground := Ground.data }, { on := 9, ground := Ground.guard }], guard := some (9, true) }) (v := ?_) rfl (by kernel_rfl) (by kernel_rfl) (by kernel_rfl) (fun _ _ _ h => h) (Or.inl ⟨by rfl, ?_⟩) (by assumption) ?_
      rotate_left
      · intro wz hSz; (try dsimp only at hSz); go_simp; all_goals (with_reducible rfl)
      (try simp only [Act.put, List.setIfInBounds_toArray, List.set_cons_zero, List.set_cons_succ])
      refine wpAnyH_take (i := 18) (oi := { dst := some 135, op := Op.load 3 (Operand.tmp 134), type := 3, pos := "law.go:67", after := #[{ on := 17, ground := Ground.data }, { on := 9, ground := Ground.guard }], guard := some (9, true) }) (v := ?_) rfl (by kernel_rfl) (by kernel_rfl) (by kernel_rfl) (fun _ _ _ h => h) (Or.inl ⟨by rfl, ?_⟩) (by assumption) ?_
      rotate_left
      · intro wz hSz; (try dsimp only at hSz); go_simp; all_goals (with_reducible rfl)
      (try simp only [Act.put, List.setIfInBounds_toArray, List.set_cons_zero, List.set_cons_succ])
      refine wpAnyH_take (i := 19) (oi := { dst := some 136, op := Op.binOp BinOp.eql 3 (Operand.tmp 135) (Operand.const (Value.int IntKind.i64 44)) 3, type := 4, pos := "law.go:67", after := #[{ on := 18, ground := Ground.data }, { on := 9, ground := Ground.guard }], guard := some (9, true) }) (v := ?_) rfl (by kernel_rfl) (by kernel_rfl) (by kernel_rfl) (fun _ _ _ h => h) (Or.inl ⟨by rfl, ?_⟩) (by assumption) ?_
      rotate_left
      · intro wz hSz; (try dsimp only at hSz); go_simp; all_goals (with_reducible rfl)
      (try simp only [Act.put, List.setIfInBounds_toArray, List.set_cons_zero, List.set_cons_succ])
      refine wpAnyH_take (i := 20) (oi := { dst := some 137, op := Op.pick (Operand.tmp 126) (Operand.tmp 136) (Operand.const (Value.bool false)), type := 4, pos := "law.go:67", after := #[{ on := 9, ground := Ground.data }, { on := 19, ground := Ground.data }], guard := none }) (v := ?_) rfl (by kernel_rfl) (by kernel_rfl) (by kernel_rfl) (fun _ _ _ h => h) (Or.inl ⟨by rfl, ?_⟩) (by assumption) ?_
      rotate_left
      · intro wz hSz; (try dsimp only at hSz); go_simp; all_goals (with_reducible rfl)
      (try simp only [Act.put, List.setIfInBounds_toArray, List.set_cons_zero, List.set_cons_succ])
      refine wpAnyH_take (i := 21) (oi := { dst := some 138, op := Op.move (Operand.tmp 137), type := 4, pos := "law.go:67", after := #[{ on := 20, ground := Ground.data }, { on := 9, ground := Ground.chain }], guard := none }) (v := ?_) rfl (by kernel_rfl) (by kernel_rfl) (by kernel_rfl) (fun _ _ _ h => h) (Or.inl ⟨by rfl, ?_⟩) (by assumption) ?_
      rotate_left
      · intro wz hSz; (try dsimp only at hSz); go_simp; all_goals (with_reducible rfl)
      (try simp only [Act.put, List.setIfInBounds_toArray, List.set_cons_zero, List.set_cons_succ])
      refine wpAnyH_take (i := 22) (oi := { dst := some 139, op := Op.move (Operand.tmp 0), type := 29, pos := "law.go:67", after := #[{ on := 21, ground := Ground.guard }], guard := some (21, true) }) (v := ?_) rfl (by kernel_rfl) (by kernel_rfl) (by kernel_rfl) (fun _ _ _ h => h) (Or.inl ⟨by rfl, ?_⟩) (by assumption) ?_
      rotate_left
      · intro wz hSz; (try dsimp only at hSz); go_simp; all_goals (with_reducible rfl)
      (try simp only [Act.put, List.setIfInBounds_toArray, List.set_cons_zero, List.set_cons_succ])
      refine wpAnyH_take (i := 23) (oi := { dst := some 140, op := Op.nilCheck (Operand.tmp 139), type := 0, pos := "law.go:67", after := #[{ on := 22, ground := Ground.data }, { on := 21, ground := Ground.guard }], guard := some (21, true) }) (v := ?_) rfl (by kernel_rfl) (by kernel_rfl) (by kernel_rfl) (fun _ _ _ h => h) (Or.inl ⟨by rfl, ?_⟩) (by assumption) ?_
      rotate_left
      · intro wz hSz; (try dsimp only at hSz); go_simp; all_goals (with_reducible rfl)
      (try simp only [Act.put, List.setIfInBounds_toArray, List.set_cons_zero, List.set_cons_succ])
      refine wpAnyH_take (i := 24) (oi := { dst := some 141, op := Op.fieldAddr 36 (Operand.tmp 140) 0, type := 0, pos := "law.go:67", after := #[{ on := 23, ground := Ground.data }, { on := 21, ground := Ground.guard }], guard := some (21, true) }) (v := ?_) rfl (by kernel_rfl) (by kernel_rfl) (by kernel_rfl) (fun _ _ _ h => h) (Or.inl ⟨by rfl, ?_⟩) (by assumption) ?_
      rotate_left
      · intro wz hSz; (try dsimp only at hSz); go_simp; all_goals (with_reducible rfl)
      (try simp only [Act.put, List.setIfInBounds_toArray, List.set_cons_zero, List.set_cons_succ])
      refine wpAnyH_take (i := 25) (oi := { dst := some 142, op := Op.load 28 (Operand.tmp 141), type := 28, pos := "law.go:67", after := #[{ on := 24, ground := Ground.data }, { on := 21, ground := Ground.guard }], guard := some (21, true) }) (v := ?_) rfl (by kernel_rfl) (by kernel_rfl) (by kernel_rfl) (fun _ _ _ h => h) (Or.inl ⟨by rfl, ?_⟩) (by assumption) ?_
      rotate_left
      · intro wz hSz; (try dsimp only at hSz); go_simp; all_goals (with_reducible rfl)
      (try simp only [Act.put, List.setIfInBounds_toArray, List.set_cons_zero, List.set_cons_succ])
      refine wpAnyH_take (i := 26) (oi := { dst := some 143, op := Op.load 28 (Operand.tmp 3), type := 28, pos := "law.go:67", after := #[{ on := 21, ground := Ground.guard }], guard := some (21, true) }) (v := ?_) rfl (by kernel_rfl) (by kernel_rfl) (by kernel_rfl) (fun _ _ _ h => h) (Or.inl ⟨by rfl, ?_⟩) (by assumption) ?_
      rotate_left
      · intro wz hSz; (try dsimp only at hSz); go_simp; all_goals (with_reducible rfl)
      (try simp only [Act.put, List.setIfInBounds_toArray, List.set_cons_zero, List.set_cons_succ])
      refine wpAnyH_ready (rs := [27]) (by kernel_rfl) (by simp) ?_
      refine AllReadyH.cons (o := { dst := some 144, op := Op.call { callee := Callee.value (Operand.func 22), args := #[Operand.tmp 142, Operand.tmp 143], argTypes := #[28, 28] }, type := 4, pos := "law.go:67", after := #[{ on := 25, ground := Ground.data }, { on := 26, ground := Ground.data }, { on := 21, ground := Ground.chain }, { on := 21, ground := Ground.guard }], guard := some (21, true) }) rfl (fun K hK => ?_) AllReadyH.nil
      go_simp
      go_at_call 22
      (with_reducible refine (c32 _ (belT HB hHeld.1)).mono ?_)
      rintro e w9 ⟨rfl, hb9⟩
      go_wp2_with fail
      refine hK.out _ _ ?_ (fun hHeld => ?_)
      · (try dsimp only)
        obtain ⟨a0, a1, a2, a3, a4⟩ := hHeld; exact ⟨belT a0 hb9, fun i => (hb9.cell (p := ⟨w.heap.size + 1, _, none⟩) (Nat.lt_of_lt_of_le HR.1 a0.size)).trans (a1 i), fun i => (hb9.cell (p := ⟨W.heap.size, _, none⟩) (Nat.lt_of_lt_of_le HY.1 a0.size)).trans (a2 i), (hb9.cell (p := ⟨gH, _, none⟩) (cell_ltF a3)).trans a3, (hb9.cell (p := ⟨gH, _, none⟩) (cell_ltF a4)).trans a4⟩
      clear hK K
      (try simp only [Act.put, List.setIfInBounds_toArray, List.set_cons_zero, List.set_cons_succ])
      refine wpAnyH_take (i := 28) (oi := { dst := some 145, op := Op.pick (Operand.tmp 138) (Operand.tmp 144) (Operand.const (Value.bool false)), type := 4, pos := "law.go:67", after := #[{ on := 21, ground := Ground.data }, { on := 27, ground := Ground.data }], guard := none }) (v := ?_) rfl (by kernel_rfl) (by kernel_rfl) (by kernel_rfl) (fun _ _ _ h => h) (Or.inl ⟨by rfl, ?_⟩) (by assumption) ?_
      rotate_left
      · intro wz hSz; (try dsimp only at hSz); go_simp; all_goals (with_reducible rfl)
      (try simp only [Act.put, List.setIfInBounds_toArray, List.set_cons_zero, List.set_cons_succ])
      refine wpAnyH_take (i := 29) (oi := { dst := some 4, op := Op.assign (Operand.tmp 145), type := 4, pos := "law.go:67", after := #[{ on := 28, ground := Ground.data }, { on := 27, ground := Ground.chain }, { on := 0, ground := Ground.phase }, { on := 1, ground := Ground.phase }, { on := 2, ground := Ground.phase }, { on := 3, ground := Ground.phase }, { on := 4, ground := Ground.phase }, { on := 5, ground := Ground.phase }, { on := 6, ground := Ground.phase }, { on := 7, ground := Ground.phase }, { on := 8, ground := Ground.phase }, { on := 9, ground := Ground.phase }, { on := 10, ground := Ground.phase }, { on := 11, ground := Ground.phase }, { on := 12, ground := Ground.phase }, { on := 13, ground := Ground.phase }, { on := 14, ground := Ground.phase }, { on := 15, ground := Ground.phase }, { on := 16, ground := Ground.phase }, { on := 17, ground := Ground.phase }, { on := 18, ground := Ground.phase }, { on := 19, ground := Ground.phase }, { on := 20, ground := Ground.phase }, { on := 21, ground := Ground.phase }, { on := 22, ground := Ground.phase }, { on := 23, ground := Ground.phase }, { on := 24, ground := Ground.phase }, { on := 25, ground := Ground.phase }, { on := 26, ground := Ground.phase }, { on := 27, ground := Ground.phase }, { on := 28, ground := Ground.phase }], guard := none }) (v := ?_) rfl (by kernel_rfl) (by kernel_rfl) (by kernel_rfl) (fun _ _ _ h => h) (Or.inl ⟨by rfl, ?_⟩) (by assumption) ?_
      rotate_left
      · intro wz hSz; (try dsimp only at hSz); go_simp; all_goals (with_reducible rfl)
      (try simp only [Act.put, List.setIfInBounds_toArray, List.set_cons_zero, List.set_cons_succ])
      refine wpAnyH_done (by kernel_rfl) ?_ _
      refine NoPanic.normal ?_
      go_wp2_with fail
      go_ret
      exact ⟨by first | rfl | simp, by first | exact belT HB hHeld.1 | exact (belT HB hHeld.1).drew⟩

end Go.Proofs.YtddphepgcihdbaaGreat
