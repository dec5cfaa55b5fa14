import Derived.Test.YtddphepgcihdbaaGreatTeE
import Derived.Test.YtddphepgcihdbaaGreatTnN
namespace Go.Proofs.YtddphepgcihdbaaGreat
open Go.RowKit
set_option linter.unusedVariables false
set_option linter.unusedSimpArgs false

/-- A row that may be written into. -/
def Wr (W : World) (B e sz g n cap : Nat) : Prop := ∃ xs, W.ownsRow B e sz (.slice (some ⟨g, 0, none⟩) n cap) n xs
theorem Wr.cell {W : World} {B e sz g n cap : Nat} (h : Wr W B e sz g n cap) (j : Nat) (hj : j < n * sz) : ∃ u, W.cell? ⟨g, j, none⟩ = some u := by
  obtain ⟨xs, h⟩ := h
  have hl := h.1
  exact ⟨xs[j]'(by omega), own_reads h rfl _ _ (by simp)⟩
theorem Wr.frz {W : World} {B e sz g n cap : Nat} (h : Wr W B e sz g n cap) (j : Nat) : W.frozen? ⟨g, j, none⟩ = false := by
  obtain ⟨xs, h⟩ := h
  exact h.frozenAt j
theorem Wr.set {W : World} {B e sz g n cap : Nat} (h : Wr W B e sz g n cap) (g' o : Nat) (v : Value) : Wr (W.setCell ⟨g', o, none⟩ v) B e sz g n cap := by
  obtain ⟨xs, h⟩ := h
  by_cases e : g' = g
  · subst e
    exact ⟨_, (h.stored o v).1⟩
  · exact ⟨xs, own_only2 h (only_of_set W g' o v) (fun q hq e2 => by simp [Value.ownBlock] at hq; omega)⟩
theorem Wr.ne {W : World} {B B' e e' sz sz' g g' n n' cap cap' : Nat} (h : Wr W B e sz g n cap) (h' : Wr W B' e' sz' g' n' cap') (he : e ≠ e') : g ≠ g' := by
  rintro rfl
  obtain ⟨xs, h⟩ := h
  obtain ⟨xs', h'⟩ := h'
  rcases h.2 with ⟨h1, _⟩ | ⟨_, _, _, h1, _, h2, _⟩
  · cases h1
  rcases h'.2 with ⟨h3, _⟩ | ⟨_, _, _, h3, _, h4, _⟩
  · cases h3
  cases h1
  cases h3
  rw [h2] at h4
  injection h4 with h4
  injection h4 with _ h5 _
  exact he h5
/-- What blot finds while it writes: the days from i on still name their rows. -/
structure Bt (w : World) (S : Nat → Prop) (B : Nat) (Ls : List Rm) (g8 cap8 mD gS nS mS capS gX nX mX capX gH nH mH capH : Nat) (BC : Array Value) (i : Nat) (W : World) : Prop where
  box : Has W w.heap.size BC
  d : ∀ k (h : k < Ls.length), i ≤ k → W.cell? ⟨g8, k * 2 + 1, none⟩ = some (.slice (some ⟨Ls[k].g, 0, none⟩) Ls[k].x.rows.length Ls[k].c)
  wd : Wr W B 49 2 g8 mD cap8
  wr : ∀ r ∈ Ls, Wr W B 50 2 r.g (r.x.rows.length + 2) r.c
  ws : Wr W B 52 9 gS mS capS
  wx : Wr W B 54 2 gX mX capX
  wh : Wr W B 56 2 gH mH capH
  on : Only S w W
theorem Bt.set {w W : World} {S : Nat → Prop} {B : Nat} {Ls : List Rm} {g8 cap8 mD gS nS mS capS gX nX mX capX gH nH mH capH : Nat} {BC : Array Value} {i : Nat} (h : Bt w S B Ls g8 cap8 mD gS nS mS capS gX nX mX capX gH nH mH capH BC i W) (g o : Nat) (v : Value) (hg : S g ∧ g ≠ w.heap.size ∧ g ≠ g8) : Bt w S B Ls g8 cap8 mD gS nS mS capS gX nX mX capX gH nH mH capH BC i (W.setCell ⟨g, o, none⟩ v) :=
  ⟨h.box.far (fun e => hg.2.1 e.symm) v, fun k hk hi => (World.cell?_setCell_other W ⟨g, o, none⟩ ⟨g8, _, none⟩ v (by intro e; exact hg.2.2 (congrArg Addr.block e))).trans (h.d k hk hi), h.wd.set _ _ _, fun r hr => (h.wr r hr).set _ _ _, h.ws.set _ _ _, h.wx.set _ _ _, h.wh.set _ _ _, h.on.set hg.1 _⟩
theorem Bt.day {w W : World} {S : Nat → Prop} {B : Nat} {Ls : List Rm} {g8 cap8 mD gS nS mS capS gX nX mX capX gH nH mH capH : Nat} {BC : Array Value} {i : Nat} (h : Bt w S B Ls g8 cap8 mD gS nS mS capS gX nX mX capX gH nH mH capH BC i W) (o : Nat) (v : Value) (ho : o < (i + 1) * 2) (hg : S g8 ∧ g8 ≠ w.heap.size) : Bt w S B Ls g8 cap8 mD gS nS mS capS gX nX mX capX gH nH mH capH BC (i + 1) (W.setCell ⟨g8, o, none⟩ v) :=
  ⟨h.box.far (fun e => hg.2 e.symm) v, fun k hk hi => (World.cell?_setCell_other W ⟨g8, o, none⟩ ⟨g8, _, none⟩ v (by intro e; have := congrArg Addr.off e; dsimp only at this; omega)).trans (h.d k hk (by omega)), h.wd.set _ _ _, fun r hr => (h.wr r hr).set _ _ _, h.ws.set _ _ _, h.wx.set _ _ _, h.wh.set _ _ _, h.on.set hg.1 _⟩
theorem Bt.day2 {w W : World} {S : Nat → Prop} {B : Nat} {Ls : List Rm} {g8 cap8 mD gS nS mS capS gX nX mX capX gH nH mH capH : Nat} {BC : Array Value} {i : Nat} (h : Bt w S B Ls g8 cap8 mD gS nS mS capS gX nX mX capX gH nH mH capH BC (i + 1) W) (o : Nat) (v : Value) (ho : o < (i + 1) * 2) (hg : S g8 ∧ g8 ≠ w.heap.size) : Bt w S B Ls g8 cap8 mD gS nS mS capS gX nX mX capX gH nH mH capH BC (i + 1) (W.setCell ⟨g8, o, none⟩ v) :=
  ⟨h.box.far (fun e => hg.2 e.symm) v, fun k hk hi => (World.cell?_setCell_other W ⟨g8, o, none⟩ ⟨g8, _, none⟩ v (by intro e; have := congrArg Addr.off e; dsimp only at this; omega)).trans (h.d k hk hi), h.wd.set _ _ _, fun r hr => (h.wr r hr).set _ _ _, h.ws.set _ _ _, h.wx.set _ _ _, h.wh.set _ _ _, h.on.set hg.1 _⟩
theorem Bt.up {w W : World} {S : Nat → Prop} {B : Nat} {Ls : List Rm} {g8 cap8 mD gS nS mS capS gX nX mX capX gH nH mH capH : Nat} {BC : Array Value} {i j : Nat} (h : Bt w S B Ls g8 cap8 mD gS nS mS capS gX nX mX capX gH nH mH capH BC i W) (hj : i ≤ j) : Bt w S B Ls g8 cap8 mD gS nS mS capS gX nX mX capX gH nH mH capH BC j W := ⟨h.box, fun k hk hi => h.d k hk (by omega), h.wd, h.wr, h.ws, h.wx, h.wh, h.on⟩
set_option maxRecDepth 100000 in
set_option maxHeartbeats 8000000 in
theorem blot_any (S : Nat → Prop) (B : Nat) (Ls : List Rm) (g8 cap8 mD gS nS mS capS gX nX mX capX gH nH mH capH : Nat) (nm : ByteArray) (w0 w1 w2 w3 w4 w5 w6 : Int) (w : World)
    (hS : ∀ k, S k → k < w.heap.size) (sD : S g8) (sS : S gS) (sX : S gX) (sH : S gH) (sR : ∀ r ∈ Ls, S r.g) (lD : Ls.length ≤ mD) (lS : nS ≤ mS) (lX : nX ≤ mX) (lH : nH ≤ mH) (cD : mD ≤ 1000000000000000) (cS : mS ≤ 1000000000000000) (cX : mX ≤ 1000000000000000) (cH : mH ≤ 1000000000000000) (cR : ∀ r ∈ Ls, r.x.rows.length ≤ 1000000000000000)
    (hd : ∀ k (h : k < Ls.length), w.cell? ⟨g8, k * 2 + 1, none⟩ = some (.slice (some ⟨Ls[k].g, 0, none⟩) Ls[k].x.rows.length Ls[k].c))
    (wd : Wr w B 49 2 g8 mD cap8) (wr : ∀ r ∈ Ls, Wr w B 50 2 r.g (r.x.rows.length + 2) r.c) (ws : Wr w B 52 9 gS mS capS) (wx : Wr w B 54 2 gX mX capX) (wh : Wr w B 56 2 gH mH capH) :
    Calls Tryz.prog 10 #[.agg #[.string nm, .slice (some ⟨g8, 0, none⟩) Ls.length cap8, .int .i64 w0, .int .i64 w1, .int .i64 w2, .int .i64 w3, .int .i64 w4, .int .i64 w5, .int .i64 w6, .slice (some ⟨gS, 0, none⟩) nS capS, .slice (some ⟨gX, 0, none⟩) nX capX, .slice (some ⟨gH, 0, none⟩) nH capH]] w fun e w' => (∃ v, e = .returned v) ∧ Only S w w' := by
  have hB0 : Hid (Bt w S B Ls g8 cap8 mD gS nS mS capS gX nX mX capX gH nH mH capH #[.string nm, .slice (some ⟨g8, 0, none⟩) Ls.length cap8, .int .i64 w0, .int .i64 w1, .int .i64 w2, .int .i64 w3, .int .i64 w4, .int .i64 w5, .int .i64 w6, .slice (some ⟨gS, 0, none⟩) nS capS, .slice (some ⟨gX, 0, none⟩) nX capX, .slice (some ⟨gH, 0, none⟩) nH capH] 0 (w.alloc (.cells #[.string nm, .slice (some ⟨g8, 0, none⟩) Ls.length cap8, .int .i64 w0, .int .i64 w1, .int .i64 w2, .int .i64 w3, .int .i64 w4, .int .i64 w5, .int .i64 w6, .slice (some ⟨gS, 0, none⟩) nS capS, .slice (some ⟨gX, 0, none⟩) nX capX, .slice (some ⟨gH, 0, none⟩) nH capH] 28))) := by
    have a1 : Below w.heap.size w (w.alloc (.cells #[.string nm, .slice (some ⟨g8, 0, none⟩) Ls.length cap8, .int .i64 w0, .int .i64 w1, .int .i64 w2, .int .i64 w3, .int .i64 w4, .int .i64 w5, .int .i64 w6, .slice (some ⟨gS, 0, none⟩) nS capS, .slice (some ⟨gX, 0, none⟩) nX capX, .slice (some ⟨gH, 0, none⟩) nH capH] 28)) := bel1
    have a2 : ∀ {e sz g n cap : Nat}, Wr w B e sz g n cap → Wr (w.alloc (.cells #[.string nm, .slice (some ⟨g8, 0, none⟩) Ls.length cap8, .int .i64 w0, .int .i64 w1, .int .i64 w2, .int .i64 w3, .int .i64 w4, .int .i64 w5, .int .i64 w6, .slice (some ⟨gS, 0, none⟩) nS capS, .slice (some ⟨gX, 0, none⟩) nX capX, .slice (some ⟨gH, 0, none⟩) nH capH] 28)) B e sz g n cap := fun h => by obtain ⟨xs, h⟩ := h; exact ⟨xs, own_bel h a1⟩
    exact ⟨Has.new _ _ _ rfl, fun k hk _ => (a1.cell (p := ⟨g8, _, none⟩) (hS _ sD)).trans (hd k hk), a2 wd, fun r hr => a2 (wr r hr), a2 ws, a2 wx, a2 wh, Only.of_below a1⟩
  have nS' : Hid (S gS ∧ gS ≠ w.heap.size ∧ gS ≠ g8) := ⟨sS, by have := hS _ sS; omega, ws.ne wd (by decide)⟩
  have nX' : Hid (S gX ∧ gX ≠ w.heap.size ∧ gX ≠ g8) := ⟨sX, by have := hS _ sX; omega, wx.ne wd (by decide)⟩
  have nH' : Hid (S gH ∧ gH ≠ w.heap.size ∧ gH ≠ g8) := ⟨sH, by have := hS _ sH; omega, wh.ne wd (by decide)⟩
  have nR' : Hid (∀ r ∈ Ls, S r.g ∧ r.g ≠ w.heap.size ∧ r.g ≠ g8) := fun r hr => ⟨sR r hr, by have := hS _ (sR r hr); omega, (wr r hr).ne wd (by decide)⟩
  have nD' : Hid (S g8 ∧ g8 ≠ w.heap.size) := ⟨sD, by have := hS _ sD; omega⟩
  have cR' : Hid _ := cR
  clear sD sS sX sH sR hd wd wr ws wx wh hS cR
  go_enter Tryz.func10, Tryz.ntmps10
  go_wp2_with fail
  go_loopg [2, 3] Ls.length (fun gk s2 s3 wr => ∃ k : Nat, k + gk = Ls.length ∧ s2 = .int .i64 (k : Int) ∧ Hid (Bt w S B Ls g8 cap8 mD gS nS mS capS gX nX mX capX gH nH mH capH #[.string nm, .slice (some ⟨g8, 0, none⟩) Ls.length cap8, .int .i64 w0, .int .i64 w1, .int .i64 w2, .int .i64 w3, .int .i64 w4, .int .i64 w5, .int .i64 w6, .slice (some ⟨gS, 0, none⟩) nS capS, .slice (some ⟨gX, 0, none⟩) nX capX, .slice (some ⟨gH, 0, none⟩) nH capH] k wr))
  case atStart => exact ⟨0, by omega, rfl, hB0⟩
  case round =>
    obtain ⟨k, hk, rfl, hB⟩ := hrel
    obtain ⟨wo, rfl⟩ : ∃ x, x = wr := ⟨_, rfl⟩
    obtain ⟨gko, rfl⟩ : ∃ x, x = gk := ⟨_, rfl⟩
    obtain ⟨_, q, _⟩ := id hB.out.box
    by_cases hlt : k < Ls.length
    · have t1 : (k : Int) < (Ls.length : Int) := by omega
      have t0 : (0 : Int) ≤ (k : Int) := by omega
      have nR := nR'.out _ (List.getElem_mem hlt)
      have cr0 := cR'.out _ (List.getElem_mem hlt)
      have hwr : Hid (∀ W, Bt w S B Ls g8 cap8 mD gS nS mS capS gX nX mX capX gH nH mH capH #[.string nm, .slice (some ⟨g8, 0, none⟩) Ls.length cap8, .int .i64 w0, .int .i64 w1, .int .i64 w2, .int .i64 w3, .int .i64 w4, .int .i64 w5, .int .i64 w6, .slice (some ⟨gS, 0, none⟩) nS capS, .slice (some ⟨gX, 0, none⟩) nX capX, .slice (some ⟨gH, 0, none⟩) nH capH] k W → Wr W B 50 2 Ls[k].g (Ls[k].x.rows.length + 2) Ls[k].c ∧ W.cell? ⟨g8, k * 2 + 1, none⟩ = some (.slice (some ⟨Ls[k].g, 0, none⟩) Ls[k].x.rows.length Ls[k].c)) := fun W h => ⟨h.wr _ (List.getElem_mem hlt), h.d k hlt (Nat.le_refl _)⟩
      generalize Ls[k].g = rg at *
      generalize Ls[k].x.rows.length = rn at *
      generalize Ls[k].c = rc at *
      have nR' : Hid _ := nR
      clear nR
      go_wp2_with fail
      clear q
      go_loopg [3] rn (fun gi s3 wi => ∃ j : Nat, j + gi = rn ∧ s3 = .int .i64 (j : Int) ∧ Hid (Bt w S B Ls g8 cap8 mD gS nS mS capS gX nX mX capX gH nH mH capH #[.string nm, .slice (some ⟨g8, 0, none⟩) Ls.length cap8, .int .i64 w0, .int .i64 w1, .int .i64 w2, .int .i64 w3, .int .i64 w4, .int .i64 w5, .int .i64 w6, .slice (some ⟨gS, 0, none⟩) nS capS, .slice (some ⟨gX, 0, none⟩) nX capX, .slice (some ⟨gH, 0, none⟩) nH capH] k wi))
      case atStart => exact ⟨0, by omega, rfl, hB⟩
      case round =>
        obtain ⟨j, hj, rfl, hI⟩ := hrel
        obtain ⟨_, q, _⟩ := id hI.out.box
        obtain ⟨v1, v2⟩ := hwr.out _ hI.out
        by_cases hjt : j < rn
        · have s1 : (j : Int) < (rn : Int) := by omega
          have s0 : (0 : Int) ≤ (j : Int) := by omega
          obtain ⟨u0, p0⟩ := v1.cell (j * 2) (by omega)
          obtain ⟨u1, p1⟩ := v1.cell (j * 2 + 1) (by omega)
          have fz := v1.frz
          clear v1
          go_wp2_with fail
          go_roundg (gk - 1)
          case measure => go_light; omega
          case rel => exact ⟨j + 1, by omega, by go_num, (hI.out.set rg (j * 2) _ nR'.out).set rg (j * 2 + 1) _ nR'.out⟩
        · have s1 : ¬ (j : Int) < (rn : Int) := by omega
          obtain ⟨u0, p0⟩ := hI.out.wd.cell (k * 2) (by omega)
          have fz := hI.out.wd.frz
          clear v1
          go_wp2_with fail
          go_roundg (gko - 1)
          case measure => go_light; omega
          case rel => exact ⟨k + 1, by omega, by go_num, (hI.out.day (k * 2) _ (by omega) nD'.out).day2 (k * 2 + 1) _ (by omega) nD'.out⟩
    · have t1 : ¬ (k : Int) < (Ls.length : Int) := by omega
      obtain rfl : k = Ls.length := by omega
      go_wp2_with fail
      clear q
      go_loopg [4] nS (fun gk s wr => ∃ k : Nat, k + gk = nS ∧ s = .int .i64 (k : Int) ∧ Hid (Bt w S B Ls g8 cap8 mD gS nS mS capS gX nX mX capX gH nH mH capH #[.string nm, .slice (some ⟨g8, 0, none⟩) Ls.length cap8, .int .i64 w0, .int .i64 w1, .int .i64 w2, .int .i64 w3, .int .i64 w4, .int .i64 w5, .int .i64 w6, .slice (some ⟨gS, 0, none⟩) nS capS, .slice (some ⟨gX, 0, none⟩) nX capX, .slice (some ⟨gH, 0, none⟩) nH capH] Ls.length wr))
      case atStart => exact ⟨0, by omega, rfl, hB⟩
      case round =>
        obtain ⟨k, hk, rfl, hB⟩ := hrel
        obtain ⟨_, q, _⟩ := id hB.out.box
        by_cases hlt : k < nS
        · have t1 : (k : Int) < (nS : Int) := by omega
          have t0 : (0 : Int) ≤ (k : Int) := by omega
          obtain ⟨u0, p0⟩ := hB.out.ws.cell (k * 9) (by omega)
          obtain ⟨u1, p1⟩ := hB.out.ws.cell (k * 9 + 1) (by omega)
          obtain ⟨u2, p2⟩ := hB.out.ws.cell (k * 9 + 2) (by omega)
          obtain ⟨u3, p3⟩ := hB.out.ws.cell (k * 9 + 3) (by omega)
          obtain ⟨u4, p4⟩ := hB.out.ws.cell (k * 9 + 4) (by omega)
          obtain ⟨u5, p5⟩ := hB.out.ws.cell (k * 9 + 5) (by omega)
          obtain ⟨u6, p6⟩ := hB.out.ws.cell (k * 9 + 6) (by omega)
          obtain ⟨u7, p7⟩ := hB.out.ws.cell (k * 9 + 7) (by omega)
          obtain ⟨u8, p8⟩ := hB.out.ws.cell (k * 9 + 8) (by omega)
          have fz := hB.out.ws.frz
          go_wp2_with fail
          go_roundg (gk - 1)
          case measure => go_light; omega
          case rel => exact ⟨k + 1, by omega, by go_num, (((((((((hB.out.set (gS) (k * 9) _ nS'.out).set (gS) (k * 9 + 1) _ nS'.out).set (gS) (k * 9 + 2) _ nS'.out).set (gS) (k * 9 + 3) _ nS'.out).set (gS) (k * 9 + 4) _ nS'.out).set (gS) (k * 9 + 5) _ nS'.out).set (gS) (k * 9 + 6) _ nS'.out).set (gS) (k * 9 + 7) _ nS'.out).set (gS) (k * 9 + 8) _ nS'.out)⟩
        · have t1 : ¬ (k : Int) < (nS : Int) := by omega
          go_wp2_with fail
          go_loopg [5] nX (fun gk s wr => ∃ k : Nat, k + gk = nX ∧ s = .int .i64 (k : Int) ∧ Hid (Bt w S B Ls g8 cap8 mD gS nS mS capS gX nX mX capX gH nH mH capH #[.string nm, .slice (some ⟨g8, 0, none⟩) Ls.length cap8, .int .i64 w0, .int .i64 w1, .int .i64 w2, .int .i64 w3, .int .i64 w4, .int .i64 w5, .int .i64 w6, .slice (some ⟨gS, 0, none⟩) nS capS, .slice (some ⟨gX, 0, none⟩) nX capX, .slice (some ⟨gH, 0, none⟩) nH capH] Ls.length wr))
          case atStart => exact ⟨0, by omega, rfl, hB⟩
          case round =>
            obtain ⟨k, hk, rfl, hB⟩ := hrel
            obtain ⟨_, q, _⟩ := id hB.out.box
            by_cases hlt : k < nX
            · have t1 : (k : Int) < (nX : Int) := by omega
              have t0 : (0 : Int) ≤ (k : Int) := by omega
              obtain ⟨u0, p0⟩ := hB.out.wx.cell (k * 2) (by omega)
              obtain ⟨u1, p1⟩ := hB.out.wx.cell (k * 2 + 1) (by omega)
              have fz := hB.out.wx.frz
              go_wp2_with fail
              go_roundg (gk - 1)
              case measure => go_light; omega
              case rel => exact ⟨k + 1, by omega, by go_num, ((hB.out.set (gX) (k * 2) _ nX'.out).set (gX) (k * 2 + 1) _ nX'.out)⟩
            · have t1 : ¬ (k : Int) < (nX : Int) := by omega
              go_wp2_with fail
              go_loopg [6] nH (fun gk s wr => ∃ k : Nat, k + gk = nH ∧ s = .int .i64 (k : Int) ∧ Hid (Bt w S B Ls g8 cap8 mD gS nS mS capS gX nX mX capX gH nH mH capH #[.string nm, .slice (some ⟨g8, 0, none⟩) Ls.length cap8, .int .i64 w0, .int .i64 w1, .int .i64 w2, .int .i64 w3, .int .i64 w4, .int .i64 w5, .int .i64 w6, .slice (some ⟨gS, 0, none⟩) nS capS, .slice (some ⟨gX, 0, none⟩) nX capX, .slice (some ⟨gH, 0, none⟩) nH capH] Ls.length wr))
              case atStart => exact ⟨0, by omega, rfl, hB⟩
              case round =>
                obtain ⟨k, hk, rfl, hB⟩ := hrel
                obtain ⟨_, q, _⟩ := id hB.out.box
                by_cases hlt : k < nH
                · have t1 : (k : Int) < (nH : Int) := by omega
                  have t0 : (0 : Int) ≤ (k : Int) := by omega
                  obtain ⟨u0, p0⟩ := hB.out.wh.cell (k * 2) (by omega)
                  obtain ⟨u1, p1⟩ := hB.out.wh.cell (k * 2 + 1) (by omega)
                  have fz := hB.out.wh.frz
                  go_wp2_with fail
                  go_roundg (gk - 1)
                  case measure => go_light; omega
                  case rel => exact ⟨k + 1, by omega, by go_num, ((hB.out.set (gH) (k * 2) _ nH'.out).set (gH) (k * 2 + 1) _ nH'.out)⟩
                · have t1 : ¬ (k : Int) < (nH : Int) := by omega
                  go_wp2_with fail
                  go_end0
                  exact ⟨⟨_, rfl⟩, hB.out.on⟩
end Go.Proofs.YtddphepgcihdbaaGreat
