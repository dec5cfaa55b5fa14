import Derived.Test.YtddphepgcihdbaaTnL
import Derived.Test.YtddphepgcihdbaaTnG
import Derived.Laws.OwnMore
namespace Go.Proofs.Ytddphepgcihdbaa
open Go.RowKit
set_option linter.unusedVariables false
set_option linter.unusedSimpArgs false

theorem Has.set12 {w : World} {b : Nat} {x0 x1 x2 x3 x4 x5 x6 x7 x8 x9 x10 x11 : Value} (h : Has w b #[x0, x1, x2, x3, x4, x5, x6, x7, x8, x9, x10, x11]) (y0 y1 y2 y3 y4 y5 y6 y7 y8 y9 y10 y11 : Value) : Has ((((((((((((w.setCell ⟨b, 0, none⟩ y0).setCell ⟨b, 1, none⟩ y1).setCell ⟨b, 2, none⟩ y2).setCell ⟨b, 3, none⟩ y3).setCell ⟨b, 4, none⟩ y4).setCell ⟨b, 5, none⟩ y5).setCell ⟨b, 6, none⟩ y6).setCell ⟨b, 7, none⟩ y7).setCell ⟨b, 8, none⟩ y8).setCell ⟨b, 9, none⟩ y9).setCell ⟨b, 10, none⟩ y10).setCell ⟨b, 11, none⟩ y11) b #[y0, y1, y2, y3, y4, y5, y6, y7, y8, y9, y10, y11] :=
  by
  have h0 : Has (w.setCell ⟨b, 0, none⟩ y0) b #[y0, x1, x2, x3, x4, x5, x6, x7, x8, x9, x10, x11] := h.set 0 (by simp) y0
  have h1 : Has ((w.setCell ⟨b, 0, none⟩ y0).setCell ⟨b, 1, none⟩ y1) b #[y0, y1, x2, x3, x4, x5, x6, x7, x8, x9, x10, x11] := h0.set 1 (by simp) y1
  have h2 : Has (((w.setCell ⟨b, 0, none⟩ y0).setCell ⟨b, 1, none⟩ y1).setCell ⟨b, 2, none⟩ y2) b #[y0, y1, y2, x3, x4, x5, x6, x7, x8, x9, x10, x11] := h1.set 2 (by simp) y2
  have h3 : Has ((((w.setCell ⟨b, 0, none⟩ y0).setCell ⟨b, 1, none⟩ y1).setCell ⟨b, 2, none⟩ y2).setCell ⟨b, 3, none⟩ y3) b #[y0, y1, y2, y3, x4, x5, x6, x7, x8, x9, x10, x11] := h2.set 3 (by simp) y3
  have h4 : Has (((((w.setCell ⟨b, 0, none⟩ y0).setCell ⟨b, 1, none⟩ y1).setCell ⟨b, 2, none⟩ y2).setCell ⟨b, 3, none⟩ y3).setCell ⟨b, 4, none⟩ y4) b #[y0, y1, y2, y3, y4, x5, x6, x7, x8, x9, x10, x11] := h3.set 4 (by simp) y4
  have h5 : Has ((((((w.setCell ⟨b, 0, none⟩ y0).setCell ⟨b, 1, none⟩ y1).setCell ⟨b, 2, none⟩ y2).setCell ⟨b, 3, none⟩ y3).setCell ⟨b, 4, none⟩ y4).setCell ⟨b, 5, none⟩ y5) b #[y0, y1, y2, y3, y4, y5, x6, x7, x8, x9, x10, x11] := h4.set 5 (by simp) y5
  have h6 : Has (((((((w.setCell ⟨b, 0, none⟩ y0).setCell ⟨b, 1, none⟩ y1).setCell ⟨b, 2, none⟩ y2).setCell ⟨b, 3, none⟩ y3).setCell ⟨b, 4, none⟩ y4).setCell ⟨b, 5, none⟩ y5).setCell ⟨b, 6, none⟩ y6) b #[y0, y1, y2, y3, y4, y5, y6, x7, x8, x9, x10, x11] := h5.set 6 (by simp) y6
  have h7 : Has ((((((((w.setCell ⟨b, 0, none⟩ y0).setCell ⟨b, 1, none⟩ y1).setCell ⟨b, 2, none⟩ y2).setCell ⟨b, 3, none⟩ y3).setCell ⟨b, 4, none⟩ y4).setCell ⟨b, 5, none⟩ y5).setCell ⟨b, 6, none⟩ y6).setCell ⟨b, 7, none⟩ y7) b #[y0, y1, y2, y3, y4, y5, y6, y7, x8, x9, x10, x11] := h6.set 7 (by simp) y7
  have h8 : Has (((((((((w.setCell ⟨b, 0, none⟩ y0).setCell ⟨b, 1, none⟩ y1).setCell ⟨b, 2, none⟩ y2).setCell ⟨b, 3, none⟩ y3).setCell ⟨b, 4, none⟩ y4).setCell ⟨b, 5, none⟩ y5).setCell ⟨b, 6, none⟩ y6).setCell ⟨b, 7, none⟩ y7).setCell ⟨b, 8, none⟩ y8) b #[y0, y1, y2, y3, y4, y5, y6, y7, y8, x9, x10, x11] := h7.set 8 (by simp) y8
  have h9 : Has ((((((((((w.setCell ⟨b, 0, none⟩ y0).setCell ⟨b, 1, none⟩ y1).setCell ⟨b, 2, none⟩ y2).setCell ⟨b, 3, none⟩ y3).setCell ⟨b, 4, none⟩ y4).setCell ⟨b, 5, none⟩ y5).setCell ⟨b, 6, none⟩ y6).setCell ⟨b, 7, none⟩ y7).setCell ⟨b, 8, none⟩ y8).setCell ⟨b, 9, none⟩ y9) b #[y0, y1, y2, y3, y4, y5, y6, y7, y8, y9, x10, x11] := h8.set 9 (by simp) y9
  have h10 : Has (((((((((((w.setCell ⟨b, 0, none⟩ y0).setCell ⟨b, 1, none⟩ y1).setCell ⟨b, 2, none⟩ y2).setCell ⟨b, 3, none⟩ y3).setCell ⟨b, 4, none⟩ y4).setCell ⟨b, 5, none⟩ y5).setCell ⟨b, 6, none⟩ y6).setCell ⟨b, 7, none⟩ y7).setCell ⟨b, 8, none⟩ y8).setCell ⟨b, 9, none⟩ y9).setCell ⟨b, 10, none⟩ y10) b #[y0, y1, y2, y3, y4, y5, y6, y7, y8, y9, y10, x11] := h9.set 10 (by simp) y10
  have h11 : Has ((((((((((((w.setCell ⟨b, 0, none⟩ y0).setCell ⟨b, 1, none⟩ y1).setCell ⟨b, 2, none⟩ y2).setCell ⟨b, 3, none⟩ y3).setCell ⟨b, 4, none⟩ y4).setCell ⟨b, 5, none⟩ y5).setCell ⟨b, 6, none⟩ y6).setCell ⟨b, 7, none⟩ y7).setCell ⟨b, 8, none⟩ y8).setCell ⟨b, 9, none⟩ y9).setCell ⟨b, 10, none⟩ y10).setCell ⟨b, 11, none⟩ y11) b #[y0, y1, y2, y3, y4, y5, y6, y7, y8, y9, y10, y11] := h10.set 11 (by simp) y11
  exact h11
theorem bel12 {B b : Nat} {a w : World} (h : Below B a w) (hb : B ≤ b) (y0 y1 y2 y3 y4 y5 y6 y7 y8 y9 y10 y11 : Value) : Below B a ((((((((((((w.setCell ⟨b, 0, none⟩ y0).setCell ⟨b, 1, none⟩ y1).setCell ⟨b, 2, none⟩ y2).setCell ⟨b, 3, none⟩ y3).setCell ⟨b, 4, none⟩ y4).setCell ⟨b, 5, none⟩ y5).setCell ⟨b, 6, none⟩ y6).setCell ⟨b, 7, none⟩ y7).setCell ⟨b, 8, none⟩ y8).setCell ⟨b, 9, none⟩ y9).setCell ⟨b, 10, none⟩ y10).setCell ⟨b, 11, none⟩ y11) :=
  ((((((((((((h.setCell hb _).setCell hb _).setCell hb _).setCell hb _).setCell hb _).setCell hb _).setCell hb _).setCell hb _).setCell hb _).setCell hb _).setCell hb _).setCell hb _)
theorem only12 {S : Nat → Prop} {b : Nat} {a w : World} (h : Only S a w) (hb : S b) (y0 y1 y2 y3 y4 y5 y6 y7 y8 y9 y10 y11 : Value) : Only S a ((((((((((((w.setCell ⟨b, 0, none⟩ y0).setCell ⟨b, 1, none⟩ y1).setCell ⟨b, 2, none⟩ y2).setCell ⟨b, 3, none⟩ y3).setCell ⟨b, 4, none⟩ y4).setCell ⟨b, 5, none⟩ y5).setCell ⟨b, 6, none⟩ y6).setCell ⟨b, 7, none⟩ y7).setCell ⟨b, 8, none⟩ y8).setCell ⟨b, 9, none⟩ y9).setCell ⟨b, 10, none⟩ y10).setCell ⟨b, 11, none⟩ y11) :=
  ((((((((((((h.set hb _).set hb _).set hb _).set hb _).set hb _).set hb _).set hb _).set hb _).set hb _).set hb _).set hb _).set hb _)
theorem results_cell1 {fn : Func} {p : Tmp} {t1 : TypeId} (h : fn.results = #[.cell p t1]) (tmps : Array Value) (P : Program) (w : World) :
    (results fn tmps).run P w = ((asAddr (tmps.getD p undef)).run P w).andThen fun a w₁ => (loadVar t1 a).run P w₁ := by
  simp only [results, h]
  simp [Sem.run_bind, Result.andThen]
theorem own_free {w : World} {base e size n g cap : Nat} {xs : List Value} (h : w.ownsRow base e size (.slice (some ⟨g, 0, none⟩) n cap) n xs) {v : Value} (hv : v = .slice (some ⟨g, 0, none⟩) n cap) (j : Nat) : w.frozen? ⟨g, j, none⟩ = false := by
  exact h.frozenAt j
theorem lim_of {t : Tt} (he : t.err = 0) : t.D.length ≤ 16 ∧ t.S.length ≤ 16 ∧ t.X.length ≤ 64 ∧ t.H.length ≤ 16 ∧ (∀ x ∈ t.D, x.rows.length ≤ 48) ∧ 0 < t.D.length := by
  have h1 : t.limB = true := by
    cases h : t.limB with
    | true => rfl
    | false => simp only [Tt.err, h] at he; split at he <;> simp at he
  have h2 : t.rowB = true := by
    cases h : t.rowB with
    | true => rfl
    | false => simp only [Tt.err, h, h1] at he; split at he <;> simp at he
  simp only [Tt.limB, Bool.and_eq_true, decide_eq_true_eq, List.all_eq_true] at h1
  simp only [Tt.rowB, Bool.and_eq_true, decide_eq_true_eq, List.all_eq_true] at h2
  exact ⟨h1.1.1, h1.1.2.1, h1.1.2.2.1, h1.1.2.2.2, h1.2, h2.1⟩
set_option maxRecDepth 100000 in
set_option maxHeartbeats 8000000 in
theorem copied_any (t : Tt) (aD aS aX aH : Option Addr) (cD cS cX cH : Nat) (w : World) (hR : TR w t (.slice aD t.D.length cD) (.slice aS t.S.length cS) (.slice aX t.X.length cX) (.slice aH t.H.length cH)) (he : t.err = 0) : Calls Try.prog 20 #[.agg #[.string t.nm, .slice aD t.D.length cD, .int .i64 t.w0, .int .i64 t.w1, .int .i64 t.w2, .int .i64 t.w3, .int .i64 t.w4, .int .i64 t.w5, .int .i64 t.w6, .slice aS t.S.length cS, .slice aX t.X.length cX, .slice aH t.H.length cH]] w fun e w' => CpP t w e w' := by
  obtain ⟨l1, l2, l3, l4, l5, l6⟩ := lim_of he
  have c46 := fun W (hb : Below w.heap.size w W) => cloneD_any t.D aD cD W (by omega) (hR.d.below hb) (dk_cells hR.r)
  have cR0 : Hid (∀ x ∈ t.D, ∀ (fa : Option Addr) (fc : Nat), x.rv = .slice fa x.rows.length fc → ∀ W, Below w.heap.size w W → Calls Try.prog 36 #[.slice fa x.rows.length fc] W fun e w' => (∃ a' c', e = .returned (.slice a' x.rows.length c') ∧ w'.ownsRow W.heap.size 74 2 (.slice a' x.rows.length c') x.rows.length (cellsF Rw.cs x.rows)) ∧ Below W.heap.size W w') :=
    fun x hx fa fc e W hb => cloneR_any x.rows fa fc W (by have := l5 x hx; omega) (by have := (hR.r x hx).below hb; rwa [e] at this)
  have cS0 : Hid _ := fun W (hb : Below w.heap.size w W) => cloneS_any t.S aS cS W (by omega) (hR.s.below hb)
  have cX0 : Hid _ := fun W (hb : Below w.heap.size w W) => cloneX_any t.X aX cX W (by omega) (hR.x.below hb)
  have cH0 : Hid _ := fun W (hb : Below w.heap.size w W) => cloneH_any t.H aH cH W (by omega) (hR.h.below hb)
  have hrv : Hid (∀ x ∈ t.D, ∃ fa fc, x.rv = .slice fa x.rows.length fc) := fun x hx => by obtain ⟨a, c, h, _⟩ := (hR.r x hx).any; exact ⟨a, c, h⟩
  have l1' : Hid (t.D.length ≤ 16) := l1
  have l6' : Hid (0 < t.D.length) := l6
  clear hR l1 l6 l5
  have D0 := (Has.new w #[.string t.nm, .slice aD t.D.length cD, .int .i64 t.w0, .int .i64 t.w1, .int .i64 t.w2, .int .i64 t.w3, .int .i64 t.w4, .int .i64 t.w5, .int .i64 t.w6, .slice aS t.S.length cS, .slice aX t.X.length cX, .slice aH t.H.length cH] 29 (b := w.heap.size) rfl).alloc (.cells #[.string ⟨#[]⟩, .slice none 0 0, .int .i64 0, .int .i64 0, .int .i64 0, .int .i64 0, .int .i64 0, .int .i64 0, .int .i64 0, .slice none 0 0, .slice none 0 0, .slice none 0 0] 29)
  have D1 := Has.new (w.alloc (.cells #[.string t.nm, .slice aD t.D.length cD, .int .i64 t.w0, .int .i64 t.w1, .int .i64 t.w2, .int .i64 t.w3, .int .i64 t.w4, .int .i64 t.w5, .int .i64 t.w6, .slice aS t.S.length cS, .slice aX t.X.length cX, .slice aH t.H.length cH] 29)) #[.string ⟨#[]⟩, .slice none 0 0, .int .i64 0, .int .i64 0, .int .i64 0, .int .i64 0, .int .i64 0, .int .i64 0, .int .i64 0, .slice none 0 0, .slice none 0 0, .slice none 0 0] 29 (b := w.heap.size + 1) (by simp)
  go_enter Try.func20, Try.ntmps20
  go_upto_region 2 with (go_at_call 35; (with_reducible refine Calls.mono (c46 _ (belT bel1 bel1)) ?_); rintro e w1 ⟨⟨a1, cd, rfl, o1⟩, hb1⟩; obtain ⟨_, q, r⟩ := id (D0.below hb1))
  obtain ⟨gD, rfl⟩ : ∃ gD, a1 = some ⟨gD, 0, none⟩ := by
    obtain ⟨g, c, h, _⟩ := own_block o1 l6'.out
    injection h with h1
    exact ⟨g, h1⟩
  have hg := own_lt o1 gD rfl
  have B1 := (D0.below hb1).set 1 (by simp) (.slice (some ⟨gD, 0, none⟩) t.D.length cd)
  simp only [List.setIfInBounds_toArray, List.set_cons_zero, List.set_cons_succ] at B1
  have F1 : CpS w gD cd [] t.D #[.string t.nm, .slice (some ⟨gD, 0, none⟩) t.D.length cd, .int .i64 t.w0, .int .i64 t.w1, .int .i64 t.w2, .int .i64 t.w3, .int .i64 t.w4, .int .i64 t.w5, .int .i64 t.w6, .slice aS t.S.length cS, .slice aX t.X.length cX, .slice aH t.H.length cH] #[.string ⟨#[]⟩, .slice none 0 0, .int .i64 0, .int .i64 0, .int .i64 0, .int .i64 0, .int .i64 0, .int .i64 0, .int .i64 0, .slice none 0 0, .slice none 0 0, .slice none 0 0] (w1.setCell ⟨w.heap.size, 1, none⟩ (.slice (some ⟨gD, 0, none⟩) t.D.length cd)) :=
    ⟨own_only2 (own_mono o1 (by simp)) (only_of_set w1 w.heap.size 1 _) (fun q hq e => by have := (own_lt o1 q hq).1; simp at this; omega), fun x hx => by simp at hx, B1, (D1.below hb1).far (by omega) _, (belT (belT bel1 bel1) hb1).setCell (Nat.le_refl _) _⟩
  have hzz : Hid (w.heap.size + 2 ≤ (w1.setCell ⟨w.heap.size, 1, none⟩ (.slice (some ⟨gD, 0, none⟩) t.D.length cd)).heap.size) := by have := hb1.size; show _ ≤ _; simp [World.setCell] at this ⊢; omega
  have hgz : Hid (w.heap.size + 2 ≤ gD) := by have := hg.1; show _ ≤ _; simpa using this
  clear q r B1 o1 D0 D1 hg c46
  generalize (w1.setCell ⟨w.heap.size, 1, none⟩ (.slice (some ⟨gD, 0, none⟩) t.D.length cd)) = Y at *
  obtain ⟨_, q, _⟩ := id F1.box
  go_wp2_with fail
  clear q
  go_loopg [3, 11] t.D.length (fun gk s3 s11 wr => ∃ (k : Nat) (Dn : List Dk), k + gk = t.D.length ∧ s11 = .int .i64 (k : Int) ∧ Hid (Dn.length = k) ∧ Hid (Dn.map cr = (t.D.take k).map cr) ∧ Hid (w.heap.size + 2 ≤ wr.heap.size) ∧ Hid (CpS w gD cd Dn (t.D.drop k) #[.string t.nm, .slice (some ⟨gD, 0, none⟩) t.D.length cd, .int .i64 t.w0, .int .i64 t.w1, .int .i64 t.w2, .int .i64 t.w3, .int .i64 t.w4, .int .i64 t.w5, .int .i64 t.w6, .slice aS t.S.length cS, .slice aX t.X.length cX, .slice aH t.H.length cH] #[.string ⟨#[]⟩, .slice none 0 0, .int .i64 0, .int .i64 0, .int .i64 0, .int .i64 0, .int .i64 0, .int .i64 0, .int .i64 0, .slice none 0 0, .slice none 0 0, .slice none 0 0] wr))
  case atStart => exact ⟨0, [], by omega, rfl, rfl, rfl, hzz, F1⟩
  case round =>
    obtain ⟨k, Dn, hk, rfl, hDn, hCr, hz, hF⟩ := hrel
    by_cases hlt : k < t.D.length
    · have t1 : (k : Int) < (t.D.length : Int) := by omega
      have t0 : (0 : Int) ≤ (k : Int) := by omega
      have hk16 : k + 1 ≤ 16 := by have := l1'.out; omega
      have hgl : gD < wr.heap.size := (own_lt hF.out.od gD rfl).2
      have hmem := List.getElem_mem hlt
      have hdx : Hid (t.D.take (k + 1) = t.D.take k ++ [t.D[k]]) := List.take_succ_eq_append_getElem hlt
      rw [List.drop_eq_getElem_cons hlt] at hF
      obtain ⟨fa, fc, hfv⟩ := hrv.out _ hmem
      have cR1 := cR0.out _ hmem fa fc hfv
      generalize t.D[k] = x at *
      obtain ⟨xn, xv, xr⟩ := x
      dsimp only at *
      subst hfv
      have cR := fun W (hb : Below wr.heap.size wr W) => cR1 W (belT hF.out.hb hb)
      clear cR1
      have prv : wr.cell? ⟨gD, k * 2 + 1, none⟩ = some (.slice fa xr.length fc) := by
        refine own_reads hF.out.od rfl _ _ ?_
        have h2 := hDn.out
        have hl : (cellsF Dk.cs Dn).length = k * 2 := by rw [cellsF_len dk_len Dn, h2]
        rw [cellsF_append, List.getElem?_append_right (by omega), hl, show k * 2 + 1 - k * 2 = 1 from by omega]
        rfl
      obtain ⟨_, q, _⟩ := id hF.out.box
      go_upto_region 5 with fail
      clear q
      refine wp_region_noPanic ?_
      refine wp_region_F (S := fun w' => w'.cell? ⟨w.heap.size, 1, none⟩ = some (.slice (some ⟨gD, 0, none⟩) t.D.length cd) ∧ w'.cell? ⟨gD, k * 2 + 1, none⟩ = some (.slice fa xr.length fc)) (E := fun i => Nat.ble 10 i) (by kernel_rfl) ?_ (fun hHeld => ?_)
      · (try dsimp only)
        exact ⟨hF.out.box.2.1 1, prv⟩
      refine wpAnyF_take (i := 0) (oi := { dst := some 14, op := Op.fieldAddr 29 (Operand.tmp 1) 1, type := 0, pos := "force.go:115", after := #[], guard := none }) (v := ?_) rfl (by kernel_rfl) (by kernel_rfl) (by kernel_rfl) (by kernel_rfl) (fun _ _ _ h => h) (Or.inl ⟨by rfl, ?_⟩) (by assumption) ?_
      rotate_left
      · intro wz hSz; (try dsimp only at hSz); go_simp; all_goals (with_reducible rfl)
      (try simp only [Act.put, List.setIfInBounds_toArray, List.set_cons_zero, List.set_cons_succ])
      refine wpAnyF_take (i := 1) (oi := { dst := some 15, op := Op.load 23 (Operand.tmp 14), type := 23, pos := "force.go:115", after := #[{ on := 0, ground := Ground.data }], guard := none }) (v := ?_) rfl (by kernel_rfl) (by kernel_rfl) (by kernel_rfl) (by kernel_rfl) (fun _ _ _ h => h) (Or.inl ⟨by rfl, ?_⟩) (by assumption) ?_
      rotate_left
      · intro wz hSz; (try dsimp only at hSz); go_simp; all_goals (with_reducible rfl)
      (try simp only [Act.put, List.setIfInBounds_toArray, List.set_cons_zero, List.set_cons_succ])
      refine wpAnyF_take (i := 2) (oi := { dst := some 16, op := Op.move (Operand.tmp 3), type := 3, pos := "force.go:115", after := #[], guard := none }) (v := ?_) rfl (by kernel_rfl) (by kernel_rfl) (by kernel_rfl) (by kernel_rfl) (fun _ _ _ h => h) (Or.inl ⟨by rfl, ?_⟩) (by assumption) ?_
      rotate_left
      · intro wz hSz; (try dsimp only at hSz); go_simp; all_goals (with_reducible rfl)
      (try simp only [Act.put, List.setIfInBounds_toArray, List.set_cons_zero, List.set_cons_succ])
      refine wpAnyF_take (i := 3) (oi := { dst := some 17, op := Op.fieldAddr 29 (Operand.tmp 1) 1, type := 0, pos := "force.go:115", after := #[], guard := none }) (v := ?_) rfl (by kernel_rfl) (by kernel_rfl) (by kernel_rfl) (by kernel_rfl) (fun _ _ _ h => h) (Or.inl ⟨by rfl, ?_⟩) (by assumption) ?_
      rotate_left
      · intro wz hSz; (try dsimp only at hSz); go_simp; all_goals (with_reducible rfl)
      (try simp only [Act.put, List.setIfInBounds_toArray, List.set_cons_zero, List.set_cons_succ])
      refine wpAnyF_take (i := 4) (oi := { dst := some 18, op := Op.load 23 (Operand.tmp 17), type := 23, pos := "force.go:115", after := #[{ on := 3, ground := Ground.data }], guard := none }) (v := ?_) rfl (by kernel_rfl) (by kernel_rfl) (by kernel_rfl) (by kernel_rfl) (fun _ _ _ h => h) (Or.inl ⟨by rfl, ?_⟩) (by assumption) ?_
      rotate_left
      · intro wz hSz; (try dsimp only at hSz); go_simp; all_goals (with_reducible rfl)
      (try simp only [Act.put, List.setIfInBounds_toArray, List.set_cons_zero, List.set_cons_succ])
      refine wpAnyF_take (i := 5) (oi := { dst := some 19, op := Op.move (Operand.tmp 3), type := 3, pos := "force.go:115", after := #[], guard := none }) (v := ?_) rfl (by kernel_rfl) (by kernel_rfl) (by kernel_rfl) (by kernel_rfl) (fun _ _ _ h => h) (Or.inl ⟨by rfl, ?_⟩) (by assumption) ?_
      rotate_left
      · intro wz hSz; (try dsimp only at hSz); go_simp; all_goals (with_reducible rfl)
      (try simp only [Act.put, List.setIfInBounds_toArray, List.set_cons_zero, List.set_cons_succ])
      refine wpAnyF_take (i := 6) (oi := { dst := some 20, op := Op.indexAddr 23 (Operand.tmp 18) (Operand.tmp 19), type := 0, pos := "force.go:115", after := #[{ on := 4, ground := Ground.data }, { on := 5, ground := Ground.data }], guard := none }) (v := ?_) rfl (by kernel_rfl) (by kernel_rfl) (by kernel_rfl) (by kernel_rfl) (fun _ _ _ h => h) (Or.inl ⟨by rfl, ?_⟩) (by assumption) ?_
      rotate_left
      · intro wz hSz; (try dsimp only at hSz); go_simp; all_goals (with_reducible rfl)
      (try simp only [Act.put, List.setIfInBounds_toArray, List.set_cons_zero, List.set_cons_succ])
      refine wpAnyF_take (i := 7) (oi := { dst := some 21, op := Op.fieldAddr 72 (Operand.tmp 20) 1, type := 0, pos := "force.go:115", after := #[{ on := 6, ground := Ground.data }], guard := none }) (v := ?_) rfl (by kernel_rfl) (by kernel_rfl) (by kernel_rfl) (by kernel_rfl) (fun _ _ _ h => h) (Or.inl ⟨by rfl, ?_⟩) (by assumption) ?_
      rotate_left
      · intro wz hSz; (try dsimp only at hSz); go_simp; all_goals (with_reducible rfl)
      (try simp only [Act.put, List.setIfInBounds_toArray, List.set_cons_zero, List.set_cons_succ])
      refine wpAnyF_take (i := 8) (oi := { dst := some 22, op := Op.load 70 (Operand.tmp 21), type := 70, pos := "force.go:115", after := #[{ on := 7, ground := Ground.data }], guard := none }) (v := ?_) rfl (by kernel_rfl) (by kernel_rfl) (by kernel_rfl) (by kernel_rfl) (fun _ _ _ h => h) (Or.inl ⟨by rfl, ?_⟩) (by assumption) ?_
      rotate_left
      · intro wz hSz; (try dsimp only at hSz); go_simp; all_goals (with_reducible rfl)
      (try simp only [Act.put, List.setIfInBounds_toArray, List.set_cons_zero, List.set_cons_succ])
      refine wpAnyF_one (i := 9) (o := { dst := some 23, op := Op.call { callee := Callee.value (Operand.func 36), args := #[Operand.tmp 22], argTypes := #[70] }, type := 70, pos := "force.go:115", after := #[{ on := 8, ground := Ground.data }], guard := none }) (by kernel_rfl) rfl (by rfl) (fun K hK => ?_)
      go_simp
      go_at_call 36
      (with_reducible refine Calls.mono (cR wr.drew ((Below.refl _ _).drew)) ?_)
      rintro e w2 ⟨⟨a2, c2, rfl, o2⟩, hb2⟩
      go_wp2_with fail
      have hb2 : Below wr.heap.size wr w2 := belT ((Below.refl wr.heap.size wr).drew) hb2
      have F2 := hF.out.below hb2
      have z2 : wr.heap.size ≤ w2.heap.size := hb2.size
      refine hK.out _ _ ?_ (fun hHeld => ?_)
      · intro _
        (try dsimp only)
        exact ⟨F2.box.2.1 1, (hb2.cell (p := ⟨gD, _, none⟩) hgl).trans prv⟩
      clear hK K hHeld
      (try simp only [Act.put, List.setIfInBounds_toArray, List.set_cons_zero, List.set_cons_succ])
      refine wpAnyF_one (i := 10) (o := { dst := some 24, op := Op.indexAddr 23 (Operand.tmp 15) (Operand.tmp 16), type := 0, pos := "force.go:115", after := #[{ on := 1, ground := Ground.data }, { on := 2, ground := Ground.data }, { on := 0, ground := Ground.phase }, { on := 1, ground := Ground.phase }, { on := 2, ground := Ground.phase }, { on := 3, ground := Ground.phase }, { on := 4, ground := Ground.phase }, { on := 5, ground := Ground.phase }, { on := 6, ground := Ground.phase }, { on := 7, ground := Ground.phase }, { on := 8, ground := Ground.phase }, { on := 9, ground := Ground.phase }], guard := none }) (by kernel_rfl) rfl (by rfl) (fun K hK => ?_)
      go_simp
      refine hK.out _ _ (fun h => absurd h (by decide)) (fun _ => ?_)
      clear hK K
      (try simp only [Act.put, List.setIfInBounds_toArray, List.set_cons_zero, List.set_cons_succ])
      refine wpAnyF_one (i := 11) (o := { dst := some 25, op := Op.fieldAddr 72 (Operand.tmp 24) 1, type := 0, pos := "force.go:115", after := #[{ on := 10, ground := Ground.data }, { on := 0, ground := Ground.phase }, { on := 1, ground := Ground.phase }, { on := 2, ground := Ground.phase }, { on := 3, ground := Ground.phase }, { on := 4, ground := Ground.phase }, { on := 5, ground := Ground.phase }, { on := 6, ground := Ground.phase }, { on := 7, ground := Ground.phase }, { on := 8, ground := Ground.phase }, { on := 9, ground := Ground.phase }], guard := none }) (by kernel_rfl) rfl (by rfl) (fun K hK => ?_)
      go_simp
      refine hK.out _ _ (fun h => absurd h (by decide)) (fun _ => ?_)
      clear hK K
      (try simp only [Act.put, List.setIfInBounds_toArray, List.set_cons_zero, List.set_cons_succ])
      refine wpAnyF_one (i := 12) (o := { dst := none, op := Op.store 70 (Operand.tmp 25) (Operand.tmp 23), type := 0, pos := "force.go:115", after := #[{ on := 11, ground := Ground.data }, { on := 9, ground := Ground.data }, { on := 9, ground := Ground.chain }, { on := 0, ground := Ground.phase }, { on := 1, ground := Ground.phase }, { on := 2, ground := Ground.phase }, { on := 3, ground := Ground.phase }, { on := 4, ground := Ground.phase }, { on := 5, ground := Ground.phase }, { on := 6, ground := Ground.phase }, { on := 7, ground := Ground.phase }, { on := 8, ground := Ground.phase }, { on := 9, ground := Ground.phase }], guard := none }) (by kernel_rfl) rfl (by rfl) (fun K hK => ?_)
      have q2 : w2.cell? ⟨gD, k * 2 + 1, none⟩ = some (.slice fa xr.length fc) := (hb2.cell (p := ⟨gD, _, none⟩) hgl).trans prv
      have f2 : w2.frozen? ⟨gD, k * 2 + 1, none⟩ = false := own_free F2.od rfl _
      go_simp
      refine hK.out _ _ (fun h => absurd h (by decide)) (fun _ => ?_)
      clear hK K
      refine wpAnyF_over (by kernel_rfl) ?_
      refine NoPanic.normal ?_
      have hnb : (Value.slice a2 xr.length c2).ownBlock ≠ some gD := fun h => by have h1 := (own_lt o2 _ h).1; have h2 : gD < wr.heap.size := hgl; simp at h1; omega
      have F3 := F2.put (.slice a2 xr.length c2) (own_mono o2 (by simpa using hz.out)) hnb
      rw [hDn.out] at F3
      have hz3 : Hid (w.heap.size + 2 ≤ (w2.setCell ⟨gD, k * 2 + 1, none⟩ (.slice a2 xr.length c2)).heap.size) := by have := hz.out; show _ ≤ _; simp [World.setCell]; omega
      have hD3 : Hid ((Dn ++ [(⟨xn, .slice a2 xr.length c2, xr⟩ : Dk)]).length = k + 1) := by show _ = _; simp [hDn.out]
      have hC3 : Hid ((Dn ++ [(⟨xn, .slice a2 xr.length c2, xr⟩ : Dk)]).map cr = (t.D.take (k + 1)).map cr) := by show _ = _; rw [hdx.out, List.map_append, List.map_append, hCr.out]; rfl
      go_wp2_with fail
      go_roundg (gk - 1)
      case measure => go_light; omega
      case rel => exact ⟨k + 1, _, by omega, by go_num, hD3, hC3, hz3, F3⟩
    · obtain rfl : k = t.D.length := by omega
      rw [List.drop_length] at hF
      have cS1 := fun W (hb : Below wr.heap.size wr W) => cS0.out W (belT hF.out.hb hb)
      have cX1 := fun W (hb : Below wr.heap.size wr W) => cX0.out W (belT hF.out.hb hb)
      have cH1 := fun W (hb : Below wr.heap.size wr W) => cH0.out W (belT hF.out.hb hb)
      clear hrv cR0
      go_upto_region 7 with fail
      refine wp_region_noPanic ?_
      refine wp_region_F (S := fun w' => w'.cell? ⟨w.heap.size, 9, none⟩ = some (.slice aS t.S.length cS) ∧ w'.cell? ⟨w.heap.size, 10, none⟩ = some (.slice aX t.X.length cX) ∧ w'.cell? ⟨w.heap.size, 11, none⟩ = some (.slice aH t.H.length cH)) (E := fun i => Nat.ble 10 i) (by kernel_rfl) ?_ (fun hHeld => ?_)
      · (try dsimp only)
        exact ⟨hF.out.box.2.1 9, hF.out.box.2.1 10, hF.out.box.2.1 11⟩
      refine wpAnyF_take (i := 0) (oi := { dst := some 27, op := Op.fieldAddr 29 (Operand.tmp 1) 3, type := 0, pos := "force.go:117", after := #[], guard := none }) (v := ?_) rfl (by kernel_rfl) (by kernel_rfl) (by kernel_rfl) (by kernel_rfl) (fun _ _ _ h => h) (Or.inl ⟨by rfl, ?_⟩) (by assumption) ?_
      rotate_left
      · intro wz hSz; (try dsimp only at hSz); go_simp; all_goals (with_reducible rfl)
      (try simp only [Act.put, List.setIfInBounds_toArray, List.set_cons_zero, List.set_cons_succ])
      refine wpAnyF_take (i := 1) (oi := { dst := some 28, op := Op.load 25 (Operand.tmp 27), type := 25, pos := "force.go:117", after := #[{ on := 0, ground := Ground.data }], guard := none }) (v := ?_) rfl (by kernel_rfl) (by kernel_rfl) (by kernel_rfl) (by kernel_rfl) (fun _ _ _ h => h) (Or.inl ⟨by rfl, ?_⟩) (by assumption) ?_
      rotate_left
      · intro wz hSz; (try dsimp only at hSz); go_simp; all_goals (with_reducible rfl)
      (try simp only [Act.put, List.setIfInBounds_toArray, List.set_cons_zero, List.set_cons_succ])
      refine wpAnyF_take (i := 3) (oi := { dst := some 30, op := Op.fieldAddr 29 (Operand.tmp 1) 4, type := 0, pos := "force.go:117", after := #[], guard := none }) (v := ?_) rfl (by kernel_rfl) (by kernel_rfl) (by kernel_rfl) (by kernel_rfl) (fun _ _ _ h => h) (Or.inl ⟨by rfl, ?_⟩) (by assumption) ?_
      rotate_left
      · intro wz hSz; (try dsimp only at hSz); go_simp; all_goals (with_reducible rfl)
      (try simp only [Act.put, List.setIfInBounds_toArray, List.set_cons_zero, List.set_cons_succ])
      refine wpAnyF_take (i := 4) (oi := { dst := some 31, op := Op.load 26 (Operand.tmp 30), type := 26, pos := "force.go:117", after := #[{ on := 3, ground := Ground.data }], guard := none }) (v := ?_) rfl (by kernel_rfl) (by kernel_rfl) (by kernel_rfl) (by kernel_rfl) (fun _ _ _ h => h) (Or.inl ⟨by rfl, ?_⟩) (by assumption) ?_
      rotate_left
      · intro wz hSz; (try dsimp only at hSz); go_simp; all_goals (with_reducible rfl)
      (try simp only [Act.put, List.setIfInBounds_toArray, List.set_cons_zero, List.set_cons_succ])
      refine wpAnyF_take (i := 6) (oi := { dst := some 33, op := Op.fieldAddr 29 (Operand.tmp 1) 5, type := 0, pos := "force.go:117", after := #[], guard := none }) (v := ?_) rfl (by kernel_rfl) (by kernel_rfl) (by kernel_rfl) (by kernel_rfl) (fun _ _ _ h => h) (Or.inl ⟨by rfl, ?_⟩) (by assumption) ?_
      rotate_left
      · intro wz hSz; (try dsimp only at hSz); go_simp; all_goals (with_reducible rfl)
      (try simp only [Act.put, List.setIfInBounds_toArray, List.set_cons_zero, List.set_cons_succ])
      refine wpAnyF_take (i := 7) (oi := { dst := some 34, op := Op.load 27 (Operand.tmp 33), type := 27, pos := "force.go:117", after := #[{ on := 6, ground := Ground.data }], guard := none }) (v := ?_) rfl (by kernel_rfl) (by kernel_rfl) (by kernel_rfl) (by kernel_rfl) (fun _ _ _ h => h) (Or.inl ⟨by rfl, ?_⟩) (by assumption) ?_
      rotate_left
      · intro wz hSz; (try dsimp only at hSz); go_simp; all_goals (with_reducible rfl)
      (try simp only [Act.put, List.setIfInBounds_toArray, List.set_cons_zero, List.set_cons_succ])
      refine wpAnyF_one (i := 2) (o := { dst := some 29, op := Op.call { callee := Callee.value (Operand.func 37), args := #[Operand.tmp 28], argTypes := #[25] }, type := 25, pos := "force.go:117", after := #[{ on := 1, ground := Ground.data }], guard := none }) (by kernel_rfl) rfl (by rfl) (fun K hK => ?_)
      go_simp
      go_at_call 37
      (with_reducible refine Calls.mono (cS1 wr.drew ((Below.refl _ _).drew)) ?_)
      rintro e w2 ⟨⟨a2, c2, rfl, o2⟩, hb2⟩
      go_wp2_with fail
      have F2 := hF.out.below (belT ((Below.refl wr.heap.size wr).drew) hb2)
      refine hK.out _ _ ?_ (fun hHeld => ?_)
      · intro _
        (try dsimp only)
        exact ⟨F2.box.2.1 9, F2.box.2.1 10, F2.box.2.1 11⟩
      have hHeld := hHeld rfl
      clear hK K
      (try simp only [Act.put, List.setIfInBounds_toArray, List.set_cons_zero, List.set_cons_succ])
      refine wpAnyF_take (i := 9) (oi := { dst := some 36, op := Op.fieldAddr 29 (Operand.tmp 1) 3, type := 0, pos := "force.go:117", after := #[{ on := 0, ground := Ground.phase }, { on := 1, ground := Ground.phase }, { on := 2, ground := Ground.phase }, { on := 3, ground := Ground.phase }, { on := 4, ground := Ground.phase }, { on := 5, ground := Ground.textOnly Departure.lateStoresUnsure }, { on := 6, ground := Ground.phase }, { on := 7, ground := Ground.phase }, { on := 8, ground := Ground.textOnly Departure.lateStoresUnsure }], guard := none }) (v := ?_) rfl (by kernel_rfl) (by kernel_rfl) (by kernel_rfl) (by kernel_rfl) (fun _ _ _ h => h) (Or.inl ⟨by rfl, ?_⟩) (by assumption) ?_
      rotate_left
      · intro wz hSz; (try dsimp only at hSz); go_simp; all_goals (with_reducible rfl)
      (try simp only [Act.put, List.setIfInBounds_toArray, List.set_cons_zero, List.set_cons_succ])
      refine wpAnyF_one (i := 5) (o := { dst := some 32, op := Op.call { callee := Callee.value (Operand.func 38), args := #[Operand.tmp 31], argTypes := #[26] }, type := 26, pos := "force.go:117", after := #[{ on := 4, ground := Ground.data }, { on := 2, ground := Ground.chain }], guard := none }) (by kernel_rfl) rfl (by rfl) (fun K hK => ?_)
      go_simp
      go_at_call 38
      (with_reducible refine Calls.mono (cX1 w2 (belT ((Below.refl wr.heap.size wr).drew) hb2)) ?_)
      rintro e w3 ⟨⟨a3, c3, rfl, o3⟩, hb3⟩
      go_wp2_with fail
      have F3 := F2.below (hb3)
      refine hK.out _ _ ?_ (fun hHeld => ?_)
      · intro _
        (try dsimp only)
        exact ⟨F3.box.2.1 9, F3.box.2.1 10, F3.box.2.1 11⟩
      have hHeld := hHeld rfl
      clear hK K
      (try simp only [Act.put, List.setIfInBounds_toArray, List.set_cons_zero, List.set_cons_succ])
      refine wpAnyF_one (i := 8) (o := { dst := some 35, op := Op.call { callee := Callee.value (Operand.func 39), args := #[Operand.tmp 34], argTypes := #[27] }, type := 27, pos := "force.go:117", after := #[{ on := 7, ground := Ground.data }, { on := 5, ground := Ground.chain }], guard := none }) (by kernel_rfl) rfl (by rfl) (fun K hK => ?_)
      go_simp
      go_at_call 39
      (with_reducible refine Calls.mono (cH1 w3 (belT (belT ((Below.refl wr.heap.size wr).drew) hb2) hb3)) ?_)
      rintro e w4 ⟨⟨a4, c4, rfl, o4⟩, hb4⟩
      go_wp2_with fail
      have F4 := F3.below (hb4)
      refine hK.out _ _ ?_ (fun hHeld => ?_)
      · intro _
        (try dsimp only)
        exact ⟨F4.box.2.1 9, F4.box.2.1 10, F4.box.2.1 11⟩
      have hHeld := hHeld rfl
      clear hK K
      (try simp only [Act.put, List.setIfInBounds_toArray, List.set_cons_zero, List.set_cons_succ])
      clear hHeld
      have z2 : wr.heap.size ≤ w2.heap.size := hb2.size
      have z3 := hb3.size
      have z4 := hb4.size
      have hz' := hz.out
      have B0 := F4.box
      obtain ⟨_, q0, r0⟩ := id B0
      refine wpAnyF_one (i := 10) (o := { dst := none, op := Op.store 25 (Operand.tmp 36) (Operand.tmp 29), type := 0, pos := "force.go:117", after := #[{ on := 9, ground := Ground.data }, { on := 2, ground := Ground.data }, { on := 8, ground := Ground.chain }, { on := 0, ground := Ground.phase }, { on := 1, ground := Ground.phase }, { on := 2, ground := Ground.phase }, { on := 3, ground := Ground.phase }, { on := 4, ground := Ground.phase }, { on := 5, ground := Ground.textOnly Departure.lateStoresUnsure }, { on := 6, ground := Ground.phase }, { on := 7, ground := Ground.phase }, { on := 8, ground := Ground.textOnly Departure.lateStoresUnsure }], guard := none }) (by kernel_rfl) rfl (by rfl) (fun K hK => ?_)
      go_simp
      refine hK.out _ _ (fun h => absurd h (by decide)) (fun _ => ?_)
      clear hK K
      (try simp only [Act.put, List.setIfInBounds_toArray, List.set_cons_zero, List.set_cons_succ])
      have B1 := B0.set 9 (by simp) (.slice a2 t.S.length c2)
      obtain ⟨_, q1, r1⟩ := id B1
      refine wpAnyF_one (i := 11) (o := { dst := some 37, op := Op.fieldAddr 29 (Operand.tmp 1) 4, type := 0, pos := "force.go:117", after := #[{ on := 0, ground := Ground.phase }, { on := 1, ground := Ground.phase }, { on := 2, ground := Ground.phase }, { on := 3, ground := Ground.phase }, { on := 4, ground := Ground.phase }, { on := 5, ground := Ground.phase }, { on := 6, ground := Ground.phase }, { on := 7, ground := Ground.phase }, { on := 8, ground := Ground.textOnly Departure.lateStoresUnsure }, { on := 9, ground := Ground.phase }, { on := 10, ground := Ground.phase }], guard := none }) (by kernel_rfl) rfl (by rfl) (fun K hK => ?_)
      go_simp
      refine hK.out _ _ (fun h => absurd h (by decide)) (fun _ => ?_)
      clear hK K
      (try simp only [Act.put, List.setIfInBounds_toArray, List.set_cons_zero, List.set_cons_succ])
      refine wpAnyF_one (i := 12) (o := { dst := none, op := Op.store 26 (Operand.tmp 37) (Operand.tmp 32), type := 0, pos := "force.go:117", after := #[{ on := 11, ground := Ground.data }, { on := 5, ground := Ground.data }, { on := 10, ground := Ground.chain }, { on := 0, ground := Ground.phase }, { on := 1, ground := Ground.phase }, { on := 2, ground := Ground.phase }, { on := 3, ground := Ground.phase }, { on := 4, ground := Ground.phase }, { on := 5, ground := Ground.phase }, { on := 6, ground := Ground.phase }, { on := 7, ground := Ground.phase }, { on := 8, ground := Ground.textOnly Departure.lateStoresUnsure }, { on := 9, ground := Ground.phase }, { on := 10, ground := Ground.phase }], guard := none }) (by kernel_rfl) rfl (by rfl) (fun K hK => ?_)
      go_simp
      refine hK.out _ _ (fun h => absurd h (by decide)) (fun _ => ?_)
      clear hK K
      (try simp only [Act.put, List.setIfInBounds_toArray, List.set_cons_zero, List.set_cons_succ])
      have B2 := B1.set 10 (by simp) (.slice a3 t.X.length c3)
      obtain ⟨_, q2, r2⟩ := id B2
      refine wpAnyF_one (i := 13) (o := { dst := some 38, op := Op.fieldAddr 29 (Operand.tmp 1) 5, type := 0, pos := "force.go:117", after := #[{ on := 0, ground := Ground.phase }, { on := 1, ground := Ground.phase }, { on := 2, ground := Ground.phase }, { on := 3, ground := Ground.phase }, { on := 4, ground := Ground.phase }, { on := 5, ground := Ground.phase }, { on := 6, ground := Ground.phase }, { on := 7, ground := Ground.phase }, { on := 8, ground := Ground.phase }, { on := 9, ground := Ground.phase }, { on := 10, ground := Ground.phase }, { on := 11, ground := Ground.phase }, { on := 12, ground := Ground.phase }], guard := none }) (by kernel_rfl) rfl (by rfl) (fun K hK => ?_)
      go_simp
      refine hK.out _ _ (fun h => absurd h (by decide)) (fun _ => ?_)
      clear hK K
      (try simp only [Act.put, List.setIfInBounds_toArray, List.set_cons_zero, List.set_cons_succ])
      refine wpAnyF_one (i := 14) (o := { dst := none, op := Op.store 27 (Operand.tmp 38) (Operand.tmp 35), type := 0, pos := "force.go:117", after := #[{ on := 13, ground := Ground.data }, { on := 8, ground := Ground.data }, { on := 12, ground := Ground.chain }, { on := 0, ground := Ground.phase }, { on := 1, ground := Ground.phase }, { on := 2, ground := Ground.phase }, { on := 3, ground := Ground.phase }, { on := 4, ground := Ground.phase }, { on := 5, ground := Ground.phase }, { on := 6, ground := Ground.phase }, { on := 7, ground := Ground.phase }, { on := 8, ground := Ground.phase }, { on := 9, ground := Ground.phase }, { on := 10, ground := Ground.phase }, { on := 11, ground := Ground.phase }, { on := 12, ground := Ground.phase }], guard := none }) (by kernel_rfl) rfl (by rfl) (fun K hK => ?_)
      go_simp
      refine hK.out _ _ (fun h => absurd h (by decide)) (fun _ => ?_)
      clear hK K
      (try simp only [Act.put, List.setIfInBounds_toArray, List.set_cons_zero, List.set_cons_succ])
      have B3 := B2.set 11 (by simp) (.slice a4 t.H.length c4)
      refine wpAnyF_over (by kernel_rfl) ?_
      refine NoPanic.normal ?_
      simp only [List.setIfInBounds_toArray, List.set_cons_zero, List.set_cons_succ] at B3
      have P3 : Has (((w4.setCell ⟨w.heap.size, 9, none⟩ (.slice a2 t.S.length c2)).setCell ⟨w.heap.size, 10, none⟩ (.slice a3 t.X.length c3)).setCell ⟨w.heap.size, 11, none⟩ (.slice a4 t.H.length c4)) (w.heap.size + 1) #[.string ⟨#[]⟩, .slice none 0 0, .int .i64 0, .int .i64 0, .int .i64 0, .int .i64 0, .int .i64 0, .int .i64 0, .int .i64 0, .slice none 0 0, .slice none 0 0, .slice none 0 0] := ((F4.res.far (by omega) _).far (by omega) _).far (by omega) _
      have O3 : Only (fun q => q = w.heap.size) w4 (((w4.setCell ⟨w.heap.size, 9, none⟩ (.slice a2 t.S.length c2)).setCell ⟨w.heap.size, 10, none⟩ (.slice a3 t.X.length c3)).setCell ⟨w.heap.size, 11, none⟩ (.slice a4 t.H.length c4)) := (((Only.refl (fun q => q = w.heap.size) w4).set rfl _).set rfl _).set rfl _
      have L3 : Below w.heap.size w (((w4.setCell ⟨w.heap.size, 9, none⟩ (.slice a2 t.S.length c2)).setCell ⟨w.heap.size, 10, none⟩ (.slice a3 t.X.length c3)).setCell ⟨w.heap.size, 11, none⟩ (.slice a4 t.H.length c4)) := ((F4.hb.setCell (Nat.le_refl _) _).setCell (Nat.le_refl _) _).setCell (Nat.le_refl _) _
      have E3 : w4.heap.size ≤ (((w4.setCell ⟨w.heap.size, 9, none⟩ (.slice a2 t.S.length c2)).setCell ⟨w.heap.size, 10, none⟩ (.slice a3 t.X.length c3)).setCell ⟨w.heap.size, 11, none⟩ (.slice a4 t.H.length c4)).heap.size := O3.size
      clear q0 r0 q1 r1 q2 r2 B0 B1 B2
      generalize (((w4.setCell ⟨w.heap.size, 9, none⟩ (.slice a2 t.S.length c2)).setCell ⟨w.heap.size, 10, none⟩ (.slice a3 t.X.length c3)).setCell ⟨w.heap.size, 11, none⟩ (.slice a4 t.H.length c4)) = Z at *
      obtain ⟨_, qb, rb⟩ := id B3
      obtain ⟨_, qp, rp⟩ := id P3
      go_wp2_with fail
      have P4 := P3.set12 (.string t.nm) (.slice (some ⟨gD, 0, none⟩) t.D.length cd) (.int .i64 t.w0) (.int .i64 t.w1) (.int .i64 t.w2) (.int .i64 t.w3) (.int .i64 t.w4) (.int .i64 t.w5) (.int .i64 t.w6) (.slice a2 t.S.length c2) (.slice a3 t.X.length c3) (.slice a4 t.H.length c4)
      have L4 : Below w.heap.size w ((((((((((((Z.setCell ⟨w.heap.size + 1, 0, none⟩ (.string t.nm)).setCell ⟨w.heap.size + 1, 1, none⟩ (.slice (some ⟨gD, 0, none⟩) t.D.length cd)).setCell ⟨w.heap.size + 1, 2, none⟩ (.int .i64 t.w0)).setCell ⟨w.heap.size + 1, 3, none⟩ (.int .i64 t.w1)).setCell ⟨w.heap.size + 1, 4, none⟩ (.int .i64 t.w2)).setCell ⟨w.heap.size + 1, 5, none⟩ (.int .i64 t.w3)).setCell ⟨w.heap.size + 1, 6, none⟩ (.int .i64 t.w4)).setCell ⟨w.heap.size + 1, 7, none⟩ (.int .i64 t.w5)).setCell ⟨w.heap.size + 1, 8, none⟩ (.int .i64 t.w6)).setCell ⟨w.heap.size + 1, 9, none⟩ (.slice a2 t.S.length c2)).setCell ⟨w.heap.size + 1, 10, none⟩ (.slice a3 t.X.length c3)).setCell ⟨w.heap.size + 1, 11, none⟩ (.slice a4 t.H.length c4)) := bel12 L3 (by omega) (.string t.nm) (.slice (some ⟨gD, 0, none⟩) t.D.length cd) (.int .i64 t.w0) (.int .i64 t.w1) (.int .i64 t.w2) (.int .i64 t.w3) (.int .i64 t.w4) (.int .i64 t.w5) (.int .i64 t.w6) (.slice a2 t.S.length c2) (.slice a3 t.X.length c3) (.slice a4 t.H.length c4)
      have O4 : Only (fun q => q = w.heap.size ∨ q = w.heap.size + 1) w4 ((((((((((((Z.setCell ⟨w.heap.size + 1, 0, none⟩ (.string t.nm)).setCell ⟨w.heap.size + 1, 1, none⟩ (.slice (some ⟨gD, 0, none⟩) t.D.length cd)).setCell ⟨w.heap.size + 1, 2, none⟩ (.int .i64 t.w0)).setCell ⟨w.heap.size + 1, 3, none⟩ (.int .i64 t.w1)).setCell ⟨w.heap.size + 1, 4, none⟩ (.int .i64 t.w2)).setCell ⟨w.heap.size + 1, 5, none⟩ (.int .i64 t.w3)).setCell ⟨w.heap.size + 1, 6, none⟩ (.int .i64 t.w4)).setCell ⟨w.heap.size + 1, 7, none⟩ (.int .i64 t.w5)).setCell ⟨w.heap.size + 1, 8, none⟩ (.int .i64 t.w6)).setCell ⟨w.heap.size + 1, 9, none⟩ (.slice a2 t.S.length c2)).setCell ⟨w.heap.size + 1, 10, none⟩ (.slice a3 t.X.length c3)).setCell ⟨w.heap.size + 1, 11, none⟩ (.slice a4 t.H.length c4)) := only12 (O3.mono (fun _ h => .inl h)) (.inr rfl) (.string t.nm) (.slice (some ⟨gD, 0, none⟩) t.D.length cd) (.int .i64 t.w0) (.int .i64 t.w1) (.int .i64 t.w2) (.int .i64 t.w3) (.int .i64 t.w4) (.int .i64 t.w5) (.int .i64 t.w6) (.slice a2 t.S.length c2) (.slice a3 t.X.length c3) (.slice a4 t.H.length c4)
      generalize ((((((((((((Z.setCell ⟨w.heap.size + 1, 0, none⟩ (.string t.nm)).setCell ⟨w.heap.size + 1, 1, none⟩ (.slice (some ⟨gD, 0, none⟩) t.D.length cd)).setCell ⟨w.heap.size + 1, 2, none⟩ (.int .i64 t.w0)).setCell ⟨w.heap.size + 1, 3, none⟩ (.int .i64 t.w1)).setCell ⟨w.heap.size + 1, 4, none⟩ (.int .i64 t.w2)).setCell ⟨w.heap.size + 1, 5, none⟩ (.int .i64 t.w3)).setCell ⟨w.heap.size + 1, 6, none⟩ (.int .i64 t.w4)).setCell ⟨w.heap.size + 1, 7, none⟩ (.int .i64 t.w5)).setCell ⟨w.heap.size + 1, 8, none⟩ (.int .i64 t.w6)).setCell ⟨w.heap.size + 1, 9, none⟩ (.slice a2 t.S.length c2)).setCell ⟨w.heap.size + 1, 10, none⟩ (.slice a3 t.X.length c3)).setCell ⟨w.heap.size + 1, 11, none⟩ (.slice a4 t.H.length c4)) = Y at *
      obtain ⟨_, u, _⟩ := id P4
      refine bodyPost_ret (v := .agg #[.string t.nm, .slice (some ⟨gD, 0, none⟩) t.D.length cd, .int .i64 t.w0, .int .i64 t.w1, .int .i64 t.w2, .int .i64 t.w3, .int .i64 t.w4, .int .i64 t.w5, .int .i64 t.w6, .slice a2 t.S.length c2, .slice a3 t.X.length c3, .slice a4 t.H.length c4]) ?_ rfl ?_
      · rw [results_cell1 rfl]
        simp [go_sem, u]
      have hlD : Dn.length = t.D.length := hDn.out
      refine ⟨Dn, some ⟨gD, 0, none⟩, a2, a3, a4, cd, c2, c3, c4, by rw [hlD], ?_, ?_, L4⟩
      · have := hCr.out; rwa [List.take_length] at this
      have hS : ∀ q, w.heap.size + 2 ≤ q → ¬ (q = w.heap.size ∨ q = w.heap.size + 1) := fun q h1 h2 => by omega
      have od := F4.od
      rw [List.append_nil] at od
      exact ⟨own_mono (own_only od O4 hS) (by omega), fun y hy => own_mono (own_only (F4.inn y hy).1 O4 hS) (by omega), own_mono (own_only (own_mono (own_bel (own_bel o2 hb3) hb4) (by simpa using hz')) O4 hS) (by omega), own_mono (own_only (own_mono (own_bel o3 hb4) (by omega)) O4 hS) (by omega), own_mono (own_only (own_mono o4 (by omega)) O4 hS) (by omega)⟩
end Go.Proofs.Ytddphepgcihdbaa
