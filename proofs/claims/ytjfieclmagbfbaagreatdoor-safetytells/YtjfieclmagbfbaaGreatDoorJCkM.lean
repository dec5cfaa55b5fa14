import Derived.Test.YtjfieclmagbfbaaGreatDoorJStA
import Derived.Deep.CutRange
import Derived.Maps.Views
import Derived.Maps.RangeWalk
import Derived.Shelf.SlSortCmp.Insertion
set_option linter.unusedSimpArgs false
set_option linter.unusedVariables false
set_option maxRecDepth 100000
set_option maxHeartbeats 8000000
namespace Go.Proofs.YtjfieclmagbfbaaGreatDoor
open Go.RowKit Go.Maps Go.WideMaps
def mD (C : List Cf) : Nat → DataW Unit
 | 0 => .map []
 | k + 1 => match C[k]? with
   | some c => ((mD C k).put (pk c.a c.b) (.lit (.int .i64 c.ab))).put (pk c.b c.a) (.lit (.int .i64 c.ba))
   | none => mD C k
theorem mD_step (C : List Cf) (k : Nat) (h : k < C.length) : mD C (k + 1) = ((mD C k).put (pk C[k].a C[k].b) (.lit (.int .i64 C[k].ab))).put (pk C[k].b C[k].a) (.lit (.int .i64 C[k].ba)) := by
 simp only [mD]; rw [List.getElem?_eq_getElem h]
theorem streetOf_any (C : List Cf) (vg vc : Value) (w : World) (h2 : Fl 4 Cf.cs w vc C) (lC : C.length ≤ 4398046511000) (ok : ∀ (i : Nat) (h : i < C.length), C[i].ok) (hv : ∃ a n c, vg = .slice a n c) :
  Calls Tryz.prog 59 #[.agg #[vg, vc]] w fun e w' => (∃ mb, e = .returned (.agg #[vg, .map (some mb)]) ∧ w'.ownsMap (H := Unit) Tryz.prog 132 (plainElem Tryz.prog 3) mb (2 * C.length) (mD C C.length) ∧ w.heap.size ≤ mb ∧ mb < w'.heap.size) ∧ Below w.heap.size w w' := by
 obtain ⟨vb, cc, rfl, kC⟩ := h2.any
 obtain ⟨ga, gn, gc, rfl⟩ := hv
 clear h2
 have hmm : ∀ (W : World) (n : Int), 0 ≤ n → (Instr.makeMap 77 (some (.int .i64 n))).run Tryz.prog W = .ok (.map (some W.heap.size)) (W.alloc (.map #[] 0)) := fun W n hn => by simp [Instr.makeMap, underlying, Tryz.underlying77]; rfl
 have wl : IntKind.i64.wrap (2 * (C.length : Int)) = 2 * (C.length : Int) := wrap64 _ (by omega)
 have l0 : (0 : Int) ≤ 2 * (C.length : Int) := by omega
 go_enter Tryz.func59, Tryz.ntmps59
 go_upto_region 1 with fail
 have H1 : Has ((w.alloc (.cells #[.slice ga gn gc, .slice vb C.length cc] 25)).alloc (.cells #[.slice none 0 0, .map none] 79)) w.heap.size #[.slice ga gn gc, .slice vb C.length cc] := (Has.new _ _ _ rfl).alloc _
 have H2 : Has ((w.alloc (.cells #[.slice ga gn gc, .slice vb C.length cc] 25)).alloc (.cells #[.slice none 0 0, .map none] 79)) (w.heap.size + 1) #[.slice none 0 0, .map none] := Has.new _ _ _ (by simp)
 have HB : Below w.heap.size w ((w.alloc (.cells #[.slice ga gn gc, .slice vb C.length cc] 25)).alloc (.cells #[.slice none 0 0, .map none] 79)) := belA
 generalize ((w.alloc (.cells #[.slice ga gn gc, .slice vb C.length cc] 25)).alloc (.cells #[.slice none 0 0, .map none] 79)) = W0 at *
 have z0 : w.heap.size + 2 ≤ W0.heap.size := H2.1
 obtain ⟨_, i1, _⟩ := id H1
 go_cut [3] from 6 to 13 (fun s3 wx => ∃ mb sb, s3 = .pointer (some ⟨sb, 0, none⟩) ∧ Has wx sb #[.slice ga gn gc, .map (some mb)] ∧ Has wx w.heap.size #[.slice ga gn gc, .slice vb C.length cc] ∧ Has wx (w.heap.size + 1) #[.slice none 0 0, .map none] ∧ wx.ownsMap (H := Unit) Tryz.prog 132 (plainElem Tryz.prog 3) mb 0 (.map []) ∧ Below w.heap.size w wx ∧ w.heap.size + 2 ≤ mb ∧ w.heap.size + 2 ≤ sb ∧ mb ≠ sb ∧ mb < wx.heap.size)
 case first =>
  go_region
  all_goals (go_wp2_with fail; go_meet)
  case rel => exact ⟨W0.heap.size, W0.heap.size + 1, rfl, (Has.new _ _ _ (by simp)).drew, ((H1.alloc _).alloc _).drew, ((H2.alloc _).alloc _).drew, ((World.ownsMap_made W0 _ _ _).alloc _).drew, ((HB.alloc HB.size _).alloc (by have := HB.size; simp; omega) _).drew, by omega, by omega, by omega, by simp; omega⟩
  case rel => exact ⟨W0.heap.size + 1, W0.heap.size, rfl, ((Has.new _ _ _ rfl).alloc _).drew, ((H1.alloc _).alloc _).drew, ((H2.alloc _).alloc _).drew, (by have := World.ownsMap_made (H := Unit) (W0.alloc (.cells #[.slice ga gn gc, .map (some (W0.heap.size + 1))] 79)) Tryz.prog 132 (plainElem Tryz.prog 3); simp at this; exact this.drew), ((HB.alloc HB.size _).alloc (by have := HB.size; simp; omega) _).drew, by omega, by omega, by omega, by simp⟩
 case rest =>
  obtain ⟨mb, sb, rfl, S, B, R, hm0, hb, m1, s1, ms, ml⟩ := hcut; clear H1 H2 HB i1 hmm wl l0 z0; obtain ⟨_, y1, _⟩ := id B; go_wp2
  go_loopw [17] (fun t wr => ∃ k : Nat, k ≤ C.length ∧ t = .int .i64 (k : Int) ∧ Hid (wr.ownsMap (H := Unit) Tryz.prog 132 (plainElem Tryz.prog 3) mb (2 * k) (mD C k)) ∧ Hid (Has wr sb #[.slice ga gn gc, .map (some mb)]) ∧ Hid (Has wr (w.heap.size + 1) #[.slice none 0 0, .map none]) ∧ Hid (Below w.heap.size w wr) ∧ mb < wr.heap.size) (fun t _ => C.length - (intOf t).toNat)
  case atStart => exact ⟨0, by omega, rfl, hm0, S, R, hb, ml⟩
  case round =>
   clear hm0 S B R hb y1 ml; obtain ⟨k, hkl, rfl, hm, S, R, hb, ml⟩ := hrel; obtain ⟨_, s2, s3⟩ := id S.out
   by_cases hlt : k < C.length
   ·obtain ⟨g, o, rfl, hg, P⟩ := kC.resolve_left (by intro e; rw [e] at hlt; simp at hlt)
    have p0 := (hb.out.cell (p := ⟨g, _, none⟩) hg).trans (P k hlt 0 _ rfl); have p1 := (hb.out.cell (p := ⟨g, _, none⟩) hg).trans (P k hlt 1 _ rfl); have p2 := (hb.out.cell (p := ⟨g, _, none⟩) hg).trans (P k hlt 2 _ rfl); have p3 := (hb.out.cell (p := ⟨g, _, none⟩) hg).trans (P k hlt 3 _ rfl); simp only [Nat.add_zero] at p0; obtain ⟨o1, o2, o3, o4⟩ := ok k hlt; have hst := mD_step C k hlt; have t1 : (k : Int) < (C.length : Int) := by omega
    have t0 : (0 : Int) ≤ (k : Int) := by omega
    have t2 : k + 1 ≤ C.length := hlt; clear P kC ok; generalize C[k].a = xa at *; generalize C[k].b = xb at *; generalize C[k].ab = xab at *; generalize C[k].ba = xba at *; have k1 := pk_some xa xb o1 o2; have k2 := pk_some xb xa o2 o1; have e3 : plainElem (H := Unit) Tryz.prog 3 (.int .i64 xab) = some (.lit (.int .i64 xab), []) := plainElem_int Tryz.underlying3 o3; have e4 : plainElem (H := Unit) Tryz.prog 3 (.int .i64 xba) = some (.lit (.int .i64 xba), []) := plainElem_int Tryz.underlying3 o4; have hbN : Below w.heap.size w (wr.alloc (.cells #[.int .i64 xa, .int .i64 xb, .int .i64 xab, .int .i64 xba] 75)) := hb.out.alloc hb.out.size _; have SN := S.out.alloc (.cells #[.int .i64 xa, .int .i64 xb, .int .i64 xab, .int .i64 xba] 75); have RN := R.out.alloc (.cells #[.int .i64 xa, .int .i64 xb, .int .i64 xab, .int .i64 xba] 75); have CN : Has (wr.alloc (.cells #[.int .i64 xa, .int .i64 xb, .int .i64 xab, .int .i64 xba] 75)) wr.heap.size #[.int .i64 xa, .int .i64 xb, .int .i64 xab, .int .i64 xba] := Has.new _ _ _ rfl; have hmN := hm.out.alloc (.cells #[.int .i64 xa, .int .i64 xb, .int .i64 xab, .int .i64 xba] 75); clear o1 o2 o3 o4
    go_wp2_with (first
     | (at_mapUpdate; refine wpList_mapUpdate_own _ rfl _ _ _ 77 rfl 132 3 lawP Tryz.underlying77 (plainElem Tryz.prog 3) mb (2 * k) (mD C k) rfl hmN (by unfold maxLen; omega) _ _ (pk xa xb) rfl rfl k1 (.lit (.int .i64 xab)) [] e3 ?_; intro w2 hm2 hg2; have O2 : Only (fun q => some mb = some q) (wr.alloc (.cells #[.int .i64 xa, .int .i64 xb, .int .i64 xab, .int .i64 xba] 75)) w2 := only_grown (Only.refl _ _) hg2 (fun q hq => .inl hq); have S2 := SN.only O2 (fun e => ms (by injection e)); have R2 := RN.only O2 (fun e => by injection e with e; omega); have C2 := CN.only O2 (fun e => by injection e with e; omega); have hb2 := bel_only hbN O2 (Nat.le_refl _) (fun q hq e => by injection e with e; omega); have z2 := O2.size; obtain ⟨_, v1, v2⟩ := id S2; obtain ⟨_, u1, u2⟩ := id C2; clear hg2 hmN)
     | (at_mapUpdate; refine wpList_mapUpdate_own _ rfl _ _ _ 77 rfl 132 3 lawP Tryz.underlying77 (plainElem Tryz.prog 3) mb (2 * k + 1) _ rfl hm2 (by unfold maxLen; omega) _ _ (pk xb xa) rfl rfl k2 (.lit (.int .i64 xba)) [] e4 ?_; intro w3 hm3 hg3; have O3 : Only (fun q => some mb = some q) w2 w3 := only_grown (Only.refl _ _) hg3 (fun q hq => .inl hq); have S3 := S2.only O3 (fun e => ms (by injection e)); have R3 := R2.only O3 (fun e => by injection e with e; omega); have hb3 := bel_only hb2 O3 (Nat.le_refl _) (fun q hq e => by injection e with e; omega); have z3 := O3.size; clear hg3))
    have hm4 : w3.ownsMap (H := Unit) Tryz.prog 132 (plainElem Tryz.prog 3) mb (2 * (k + 1)) (mD C (k + 1)) := by rw [hst]; exact hm3
    have ml3 : mb < w3.heap.size := by simp at z2; omega
    go_roundw
    case rel => exact ⟨k + 1, by omega, by go_num, hm4, S3, R3, hb3, ml3⟩
    case measure => simp [intOf]; omega
   ·have t1 : ¬ (k : Int) < (C.length : Int) := by omega
    obtain rfl : k = C.length := by omega
    obtain ⟨_, r2, r3⟩ := id R.out; go_wp2; have K : Has ((wr.setCell ⟨w.heap.size + 1, 0, none⟩ (.slice ga gn gc)).setCell ⟨w.heap.size + 1, 1, none⟩ (.map (some mb))) (w.heap.size + 1) #[.slice ga gn gc, .map (some mb)] := by simpa using (R.out.set 0 (by simp) (.slice ga gn gc)).set 1 (by simp) (.map (some mb))
    have hmF := (hm.out.setCell (a := ⟨w.heap.size + 1, 0, none⟩) (by show mb ≠ w.heap.size + 1; omega) (.slice ga gn gc)).setCell (a := ⟨w.heap.size + 1, 1, none⟩) (by show mb ≠ w.heap.size + 1; omega) (.map (some mb)); have hbF := (hb.out.setCell (p := ⟨w.heap.size + 1, 0, none⟩) (by simp) (.slice ga gn gc)).setCell (p := ⟨w.heap.size + 1, 1, none⟩) (by simp) (.map (some mb)); obtain ⟨_, k1, _⟩ := id K; exact bodyPost_ret (v := .agg #[.slice ga gn gc, .map (some mb)]) (by simp [results, Tryz.results59, go_sem, k1]) rfl ⟨⟨mb, rfl, hmF, by omega, by simpa [World.setCell] using ml⟩, hbF⟩
def stepD (D : DataW Unit) (c : Cf) : DataW Unit := (D.put (pk c.a c.b) (.lit (.int .i64 c.ab))).put (pk c.b c.a) (.lit (.int .i64 c.ba))
theorem mD_fold (C : List Cf) : ∀ k, k ≤ C.length → mD C k = (C.take k).foldl stepD (.map [])
 | 0, _ => rfl
 | k + 1, h => by
   rw [mD_step C k (by omega), List.take_succ_eq_append_getElem (by omega), List.foldl_append, ← mD_fold C k (by omega)]
   rfl
theorem ordB_trans {b c d : Cf} (h1 : ordB b c = true) (h2 : ordB c d = true) : ordB b d = true := by
 simp [ordB] at *; omega
theorem rows_ord {n : Nat} : ∀ (cs : List Cf) (c : Cf), rowsB n (some c) cs = true → ∀ d ∈ cs, ordB c d = true ∧ cfB n d = true
 | [], _, _, d, hd => by cases hd
 | x :: xs, c, h, d, hd => by
   simp [rowsB, ordP] at h; rcases List.mem_cons.1 hd with rfl | hd
   ·exact ⟨h.1.2, h.1.1⟩
   ·have ih := rows_ord xs x h.2 d hd
    exact ⟨ordB_trans h.1.2 ih.1, ih.2⟩
theorem inter_none : ∀ (cs : List Cf) (o g : Int), (∀ d ∈ cs, ¬ (d.a = o ∧ d.b = g) ∧ ¬ (d.a = g ∧ d.b = o)) → interF cs o g = (0, false)
 | [], _, _, _ => rfl
 | d :: cs, o, g, h => by
   have h1 := h d (by simp); unfold interF; rw [if_neg h1.1, if_neg h1.2]; exact inter_none cs o g (fun e he => h e (by simp [he]))
theorem stepD_map {D : DataW Unit} (h : IsMap D) (c : Cf) : IsMap (stepD D c) := (h.put _ _).put _ _
theorem fold_at {n : Nat} : ∀ (cs : List Cf) (p : Option Cf) (D : DataW Unit) (o g : Int) (z : DataW Unit), IsMap D → rowsB n p cs = true → (∀ d ∈ cs, d.ok) → (Lit.int .i64 o).wf = true → (Lit.int .i64 g).wf = true →
  (cs.foldl stepD D).atKey (pk o g) z = (if (interF cs o g).2 = true then .lit (.int .i64 (interF cs o g).1) else D.atKey (pk o g) z) ∧ Maps.has (cs.foldl stepD D) (pk o g) = ((interF cs o g).2 || Maps.has D (pk o g))
 | [], _, D, o, g, z, _, _, _, _, _ => by simp [interF]
 | c :: cs, p, D, o, g, z, hD, hr, ok, wo, wg => by
   have okc := ok c (by simp); simp [rowsB] at hr; have hr1 := hr.1.1; have hr2 := hr.2; have so := rows_ord cs c hr2; have ih := fold_at cs (some c) (stepD D c) o g z (stepD_map hD c) hr2 (fun d hd => ok d (by simp [hd])) wo wg; have ab : c.a < c.b := by simp [cfB] at hr1; exact hr1.2.1
   have ne1 : pk c.a c.b ≠ pk c.b c.a := fun e => by have := pk_inj okc.1 okc.2.1 okc.2.1 okc.1 e; omega
   have later : ∀ d ∈ cs, ¬ (d.a = c.a ∧ d.b = c.b) ∧ ¬ (d.a = c.b ∧ d.b = c.a) := fun d hd => by
    have h1 := so d hd; have h2 := h1.1; have h3 := h1.2; simp [ordB] at h2; simp [cfB] at h3
    constructor <;> omega
   have k1 : WideAt.IsKeyLit (pk c.a c.b) := trivial; have k2 : WideAt.IsKeyLit (pk c.b c.a) := trivial; rw [List.foldl_cons, ih.1, ih.2]
   by_cases m1 : c.a = o ∧ c.b = g
   ·obtain ⟨rfl, rfl⟩ := m1
    have e1 : interF (c :: cs) c.a c.b = (c.ab, true) := by simp [interF]
    rw [inter_none cs c.a c.b later, e1]
    constructor
    ·simp [stepD, atKey_put_other ne1, atKey_put_same hD k1]
    ·simp [stepD, has_put_other ne1, has_put_same hD k1]
   ·by_cases m2 : c.a = g ∧ c.b = o
    ·obtain ⟨rfl, rfl⟩ := m2
     have e1 : interF (c :: cs) c.b c.a = (c.ba, true) := by
      have : ¬ (c.a = c.b ∧ c.b = c.a) := by omega
      simp [interF, this]
     rw [inter_none cs c.b c.a (fun d hd => ⟨(later d hd).2, (later d hd).1⟩), e1]
     constructor
     ·simp [stepD, atKey_put_same (hD.put _ _) k2]
     ·simp [stepD, has_put_same (hD.put _ _) k2]
    ·have e1 : interF (c :: cs) o g = interF cs o g := by
      show (if c.a = o ∧ c.b = g then _ else if c.a = g ∧ c.b = o then _ else _) = _; rw [if_neg m1, if_neg m2]
     have n1 : pk o g ≠ pk c.a c.b := fun e => by have := pk_inj wo wg okc.1 okc.2.1 e; exact m1 ⟨this.1.symm, this.2.symm⟩
     have n2 : pk o g ≠ pk c.b c.a := fun e => by have := pk_inj wo wg okc.2.1 okc.1 e; exact m2 ⟨this.2.symm, this.1.symm⟩
     rw [e1]; simp [stepD, atKey_put_other n1, atKey_put_other n2, has_put_other n1, has_put_other n2]
theorem mD_at {G : List Gp} {C : List Cf} (gr : gridB G C = true) (ok : ∀ (i : Nat) (h : i < C.length), C[i].ok) (o g : Int) (wo : (Lit.int .i64 o).wf = true) (wg : (Lit.int .i64 g).wf = true) (z : DataW Unit) :
  (mD C C.length).atKey (pk o g) z = (if (interF C o g).2 = true then .lit (.int .i64 (interF C o g).1) else z) ∧ Maps.has (mD C C.length) (pk o g) = (interF C o g).2 := by
 have hr : rowsB G.length none C = true := by simp [gridB] at gr; exact gr.2.2
 have h := fold_at C none (.map []) o g z isMap_empty hr (fun d hd => by obtain ⟨i, hi, rfl⟩ := List.mem_iff_getElem.1 hd; exact ok i hi) wo wg
 rw [mD_fold C C.length (Nat.le_refl _), List.take_length]
 refine ⟨h.1.trans ?_, h.2.trans ?_⟩
 ·simp [DataW.atKey]
 ·simp [Maps.has]
def wA (C : List Cf) (A : Nat) (g : Int) : List Gp → Nat → Int → Int
 | [], _, w => w
 | x :: xs, o, w => wA C A g xs (o + 1) (if hasN A (o : Int) = true then (if w < waitV x C (o : Int) g then waitV x C (o : Int) g else w) else w)
theorem wF_wA (C : List Cf) (F T A : Nat) (all : Bool) (g : Int) : ∀ (G : List Gp) (o : Nat) (w : Int), (∀ k, o ≤ k → k < o + G.length → hasN A (k : Int) = (all || loses F T k)) → wF C F T all g G o w = wA C A g G o w
 | [], _, _, _ => rfl
 | x :: xs, o, w, h => by
   unfold wF wA; rw [h o (Nat.le_refl _) (by simp)]; exact wF_wA C F T A all g xs (o + 1) _ (fun k h1 h2 => h k (by omega) (by simp; omega))
theorem wA_max (C : List Cf) (A : Nat) (g : Int) : ∀ (G : List Gp) (o : Nat) (w : Int), w ≤ wA C A g G o w ∧ (∀ (i : Nat) (h : i < G.length), hasN A ((o + i : Nat) : Int) = true → waitV G[i] C ((o + i : Nat) : Int) g ≤ wA C A g G o w) ∧
  (wA C A g G o w = w ∨ ∃ (i : Nat) (h : i < G.length), hasN A ((o + i : Nat) : Int) = true ∧ wA C A g G o w = waitV G[i] C ((o + i : Nat) : Int) g)
 | [], _, w => ⟨by simp [wA], fun i h => by simp at h, .inl rfl⟩
 | x :: xs, o, w => by
   obtain ⟨i1, i2, i3⟩ := wA_max C A g xs (o + 1) (if hasN A (o : Int) = true then (if w < waitV x C (o : Int) g then waitV x C (o : Int) g else w) else w); have e : wA C A g (x :: xs) o w = wA C A g xs (o + 1) (if hasN A (o : Int) = true then (if w < waitV x C (o : Int) g then waitV x C (o : Int) g else w) else w) := rfl; rw [e]; refine ⟨?_, fun i h hm => ?_, ?_⟩
   ·refine Int.le_trans ?_ i1
    split
    ·split <;> omega
    ·omega
   ·cases i with
    | zero =>
      simp only [Nat.add_zero] at hm ⊢; refine Int.le_trans ?_ i1; rw [if_pos hm]; show waitV x C (o : Int) g ≤ _; split <;> omega
    | succ i =>
      have := i2 i (by simpa using h) (by rw [show o + 1 + i = o + (i + 1) by omega]; exact hm); rw [show o + 1 + i = o + (i + 1) by omega] at this
      simpa using this
   ·rcases i3 with i3 | ⟨i, hi, hm, hv⟩
    ·by_cases ha : hasN A (o : Int) = true
     ·rw [if_pos ha] at i3 ⊢
      by_cases hl : w < waitV x C (o : Int) g
      ·rw [if_pos hl] at i3 ⊢
       exact .inr ⟨0, by simp, by simpa using ha, by simpa using i3⟩
      ·rw [if_neg hl] at i3 ⊢
       exact .inl i3
     ·rw [if_neg ha] at i3 ⊢
      exact .inl i3
    ·refine .inr ⟨i + 1, by simpa using hi, ?_, ?_⟩
     ·rw [show o + (i + 1) = o + 1 + i by omega]; exact hm
     ·rw [hv, show o + (i + 1) = o + 1 + i by omega]; simp
theorem inter_range {n : Nat} : ∀ (cs : List Cf) (p : Option Cf) (o g : Int), rowsB n p cs = true → (interF cs o g).2 = true → (0 ≤ o ∧ o < (n : Int)) ∧ 0 ≤ g ∧ g < (n : Int)
 | [], _, _, _, _, h => by simp [interF] at h
 | c :: cs, p, o, g, hr, h => by
   simp [rowsB, cfB] at hr; have ih := inter_range cs (some c) o g hr.2; unfold interF at h; split at h
   ·omega
   ·split at h
    ·omega
    ·exact ih h
open Go.RowKit
def orL : List Int → Int
 | [] => 0
 | x :: r => if x ≠ 0 then x else orL r
theorem orL_skip {x : Int} {r : List Int} (h : x = 0) : orL (x :: r) = orL r := by simp [orL, h]
theorem orL_take {x : Int} {r : List Int} (h : x ≠ 0) : orL (x :: r) = x := by simp [orL, h]
def bcF (p q : Int × Int) : Int := orL [Go.Lib.compareInt (min p.1 p.2) (min q.1 q.2), Go.Lib.compareInt (max p.1 p.2) (max q.1 q.2), Go.Lib.compareInt p.1 q.1]
def ltP (p q : Int × Int) : Prop := min p.1 p.2 < min q.1 q.2 ∨ (min p.1 p.2 = min q.1 q.2 ∧ (max p.1 p.2 < max q.1 q.2 ∨ (max p.1 p.2 = max q.1 q.2 ∧ p.1 < q.1)))
theorem cmp_cases (x y : Int) : (Go.Lib.compareInt x y = -1 ∧ x < y) ∨ (Go.Lib.compareInt x y = 0 ∧ x = y) ∨ (Go.Lib.compareInt x y = 1 ∧ y < x) := by
 unfold Go.Lib.compareInt
 by_cases h1 : x < y
 ·left; simp [h1]
 ·by_cases h2 : y < x
  ·right; right; simp [h1, h2]
  ·right; left; simp [h1, h2]; omega
theorem bc_lt (p q : Int × Int) : bcF p q < 0 ↔ ltP p q := by
 unfold bcF ltP
 rcases cmp_cases (min p.1 p.2) (min q.1 q.2) with ⟨e1, h1⟩ | ⟨e1, h1⟩ | ⟨e1, h1⟩
 ·rw [e1, orL_take (by decide)]; constructor
  ·intro _; exact .inl h1
  ·intro _; decide
 ·rw [e1, orL_skip rfl]
  rcases cmp_cases (max p.1 p.2) (max q.1 q.2) with ⟨e2, h2⟩ | ⟨e2, h2⟩ | ⟨e2, h2⟩
  ·rw [e2, orL_take (by decide)]; constructor
   ·intro _; exact .inr ⟨h1, .inl h2⟩
   ·intro _; decide
  ·rw [e2, orL_skip rfl]
   rcases cmp_cases p.1 q.1 with ⟨e3, h3⟩ | ⟨e3, h3⟩ | ⟨e3, h3⟩
   ·rw [e3, orL_take (by decide)]; constructor
    ·intro _; exact .inr ⟨h1, .inr ⟨h2, h3⟩⟩
    ·intro _; decide
   ·rw [e3, orL_skip rfl]; constructor
    ·intro h; exact absurd h (by decide)
    ·rintro (h | ⟨_, h | ⟨_, h⟩⟩) <;> omega
   ·rw [e3, orL_take (by decide)]; constructor
    ·intro h; exact absurd h (by decide)
    ·rintro (h | ⟨_, h | ⟨_, h⟩⟩) <;> omega
  ·rw [e2, orL_take (by decide)]; constructor
   ·intro h; exact absurd h (by decide)
   ·rintro (h | ⟨_, h | ⟨_, h⟩⟩) <;> omega
 ·rw [e1, orL_take (by decide)]; constructor
  ·intro h; exact absurd h (by decide)
  ·rintro (h | ⟨_, h⟩) <;> omega
theorem lt_iff (p q : Int × Int) : Go.Proofs.ltOf bcF p q = true ↔ ltP p q := by
 unfold Go.Proofs.ltOf; rw [decide_eq_true_iff]; exact bc_lt p q
theorem lt_iffN (p q : Int × Int) : Go.Proofs.ltOf bcF p q = false ↔ ¬ ltP p q := by
 rw [← lt_iff, Bool.not_eq_true]
theorem ltP_trans {x y z : Int × Int} (h1 : ltP x y) (h2 : ltP y z) : ltP x z := by unfold ltP at *; omega
theorem ltP_tot {x y : Int × Int} (h1 : ¬ ltP x y) (h2 : ¬ ltP y x) : x = y := by
 unfold ltP at *
 have e1 : x.1 = y.1 := by omega
 have e2 : x.2 = y.2 := by omega
 exact Prod.ext e1 e2
theorem swoB : Go.Sort.SWO (Go.Proofs.ltOf bcF) where
 irrefl x := by rw [lt_iffN]; unfold ltP; omega
 trans x y z h1 h2 := by rw [lt_iff] at *; exact ltP_trans h1 h2
 ntrans x y z h1 h2 := by rw [lt_iffN] at *; unfold ltP at *; omega
def amb (G : List Gp) (i : Int) : Int := ((G[i.toNat]?).map (·.amber)).getD 0
def shX (G : List Gp) (c : Cf) : List (Int × Int) := (if c.ab < amb G c.a then [(c.a, c.b)] else []) ++ (if c.ba < amb G c.b then [(c.b, c.a)] else [])
def shL (G : List Gp) : List Cf → List (Int × Int)
 | [] => []
 | c :: cs => shX G c ++ shL G cs
def shB (G : List Gp) (C : List Cf) (p : Int × Int) : Bool := (interF C p.1 p.2).2 && decide ((interF C p.1 p.2).1 < amb G p.1)
theorem shX_mem (G : List Gp) (c : Cf) (p : Int × Int) : p ∈ shX G c ↔ (p = (c.a, c.b) ∧ c.ab < amb G c.a) ∨ (p = (c.b, c.a) ∧ c.ba < amb G c.b) := by
 unfold shX
 by_cases h1 : c.ab < amb G c.a <;> by_cases h2 : c.ba < amb G c.b <;> simp [h1, h2]
theorem shL_names (G : List Gp) : ∀ (cs : List Cf) (p : Int × Int), p ∈ shL G cs → ∃ c ∈ cs, p = (c.a, c.b) ∨ p = (c.b, c.a)
 | [], p, h => by cases h
 | c :: cs, p, h => by
   rcases List.mem_append.1 h with h | h
   ·rcases (shX_mem G c p).1 h with ⟨e, _⟩ | ⟨e, _⟩
    ·exact ⟨c, by simp, .inl e⟩
    ·exact ⟨c, by simp, .inr e⟩
   ·obtain ⟨d, hd, e⟩ := shL_names G cs p h
    exact ⟨d, by simp [hd], e⟩
theorem shL_mem (G : List Gp) {n : Nat} : ∀ (cs : List Cf) (q : Option Cf) (p : Int × Int), rowsB n q cs = true → (p ∈ shL G cs ↔ shB G cs p = true)
 | [], _, p, _ => by simp [shL, shB, interF]
 | c :: cs, q, p, hr => by
   simp [rowsB] at hr; have so := rows_ord cs c hr.2; have ih := shL_mem G cs (some c) p hr.2; have ab : c.a < c.b := by have := hr.1.1; simp [cfB] at this; exact this.2.1
   have later : ∀ d ∈ cs, ¬ (d.a = c.a ∧ d.b = c.b) ∧ ¬ (d.a = c.b ∧ d.b = c.a) := fun d hd => by
    have h1 := so d hd; have h2 := h1.1; have h3 := h1.2; simp [ordB] at h2; simp [cfB] at h3
    constructor <;> omega
   show p ∈ shX G c ++ shL G cs ↔ _; rw [List.mem_append, shX_mem]; obtain ⟨o, g⟩ := p
   by_cases m1 : c.a = o ∧ c.b = g
   ·obtain ⟨rfl, rfl⟩ := m1
    have e0 : (c.a, c.b) ∉ shL G cs := fun h => by
     obtain ⟨d, hd, e | e⟩ := shL_names G cs _ h
     ·injection e with e1 e2; exact (later d hd).1 ⟨e1.symm, e2.symm⟩
     ·injection e with e1 e2; exact (later d hd).2 ⟨e2.symm, e1.symm⟩
    have e1 : interF (c :: cs) c.a c.b = (c.ab, true) := by simp [interF]
    have e2 : ¬ (c.a, c.b) = (c.b, c.a) := fun e => by injection e with e1 e2; omega
    simp [shB, e1, e0, e2]
   ·by_cases m2 : c.a = g ∧ c.b = o
    ·obtain ⟨rfl, rfl⟩ := m2
     have e0 : (c.b, c.a) ∉ shL G cs := fun h => by
      obtain ⟨d, hd, e | e⟩ := shL_names G cs _ h
      ·injection e with e1 e2; exact (later d hd).2 ⟨e1.symm, e2.symm⟩
      ·injection e with e1 e2; exact (later d hd).1 ⟨e2.symm, e1.symm⟩
     have e1 : interF (c :: cs) c.b c.a = (c.ba, true) := by
      have : ¬ (c.a = c.b ∧ c.b = c.a) := by omega
      simp [interF, this]
     have e2 : ¬ (c.b, c.a) = (c.a, c.b) := fun e => by injection e with e1 e2; omega
     simp [shB, e1, e0, e2]
    ·have e1 : interF (c :: cs) o g = interF cs o g := by
      show (if c.a = o ∧ c.b = g then _ else if c.a = g ∧ c.b = o then _ else _) = _; rw [if_neg m1, if_neg m2]
     have n1 : ¬ (o, g) = (c.a, c.b) := fun e => by injection e with e1 e2; exact m1 ⟨e1.symm, e2.symm⟩
     have n2 : ¬ (o, g) = (c.b, c.a) := fun e => by injection e with e1 e2; exact m2 ⟨e2.symm, e1.symm⟩
     rw [ih]; simp [shB, e1, n1, n2]
theorem shL_sorted (G : List Gp) {n : Nat} : ∀ (cs : List Cf) (q : Option Cf), rowsB n q cs = true → (shL G cs).Pairwise ltP
 | [], _, _ => List.Pairwise.nil
 | c :: cs, q, hr => by
   simp [rowsB] at hr; have so := rows_ord cs c hr.2; have ab : c.a < c.b := by have := hr.1.1; simp [cfB] at this; exact this.2.1
   show (shX G c ++ shL G cs).Pairwise ltP; refine List.pairwise_append.2 ⟨?_, shL_sorted G cs (some c) hr.2, fun x hx y hy => ?_⟩
   ·unfold shX
    by_cases h1 : c.ab < amb G c.a <;> by_cases h2 : c.ba < amb G c.b <;> simp [h1, h2]
    unfold ltP; simp; omega
   ·obtain ⟨d, hd, e⟩ := shL_names G cs y hy
    have h1 := (so d hd).1; have h3 := (so d hd).2; simp [ordB] at h1; simp [cfB] at h3; have hx' := (shX_mem G c x).1 hx; unfold ltP; rcases hx' with ⟨e1, _⟩ | ⟨e1, _⟩ <;> rcases e with e | e <;> subst e1 <;> subst e <;> simp only [] <;> omega
theorem nodup_of_lt : ∀ {L : List (Int × Int)}, L.Pairwise ltP → L.Nodup
 | [], _ => List.nodup_nil
 | x :: L, h => by
   rw [List.pairwise_cons] at h; refine List.nodup_cons.2 ⟨fun hx => ?_, nodup_of_lt h.2⟩; have := h.1 x hx; unfold ltP at this; omega
theorem sh_uniq {G : List Gp} {C : List Cf} (gr : gridB G C = true) {Q R : List (Int × Int)} (nd : Q.Nodup) (hm : ∀ p, p ∈ Q ↔ shB G C p = true) (hp : R.Perm Q) (hs : R.Pairwise fun x y => ¬ ltP y x) : R = shL G C := by
 have hr : rowsB G.length none C = true := by simp [gridB] at gr; exact gr.2.2
 have s2 := shL_sorted G C none hr
 have p2 : R.Perm (shL G C) := by
  refine (List.perm_ext_iff_of_nodup (hp.nodup_iff.2 nd) (nodup_of_lt s2)).2 fun p => ?_
  rw [hp.mem_iff, hm, shL_mem G C none p hr]
 exact List.Perm.eq_of_pairwise (le := fun x y => ¬ ltP y x) (fun a b _ _ h1 h2 => ltP_tot h2 h1) hs (s2.imp fun {a b} h h2 => by have := ltP_trans h h2; unfold ltP at this; omega) p2
end Go.Proofs.YtjfieclmagbfbaaGreatDoor
