import Derived.Test.YtnicolaphmffkaaGreatDoorThA
import Derived.Maps.Own
import Derived.Maps.OwnOps
import Derived.Maps.RangeWalk
import Derived.DeepKeys4
import Derived.KernelRfl
import Derived.Deep.CutRange
import Derived.Maps.Views
import Derived.Laws.Cover1
namespace Go.Proofs.YtnicolaphmffkaaGreatDoor
open Go.RowKit Go.Maps Go.WideMaps
set_option linter.unusedVariables false

theorem laidOutM : laidOutB Tryz.prog = true := by kernel_rfl
theorem row55 : (210 : TypeId) < Tryz.prog.types.size := of_decide_eq_true (by kernel_rfl)
theorem cells55 : Tryz.prog.cellsOf 210 = 2 := by kernel_rfl
theorem wide55 : (match Tryz.prog.underlying 210 with | some (.array _ _) | some (.struct _) => true | _ => false) = true := by rw [Tryz.underlying210]
set_option maxRecDepth 100000 in
/-- Pairs of groups as a map's keys. -/
theorem lawP : Keyed Tryz.prog 210 := Keyed.of_law (deep_law_laid laidOutM (m := 2) (by omega) row55 (by kernel_rfl) wide55)
theorem key55 : Tryz.prog.keyType 210 = true := by kernel_rfl
theorem formed55 {c0 c1 : Value} : (Value.agg #[c0, c1]).formed Tryz.prog 210 = true := by simp [Value.formed, Tryz.underlying210, cells55]
/-- What a pair reads as. -/
def pk (a b : Int) : Lit := .string (keyBytes [.int .i64 a, .int .i64 b])
theorem pk_some (a b : Int) (ha : (Lit.int .i64 a).wf = true) (hb : (Lit.int .i64 b).wf = true) : keyOf Tryz.prog 210 (.agg #[.int .i64 a, .int .i64 b]) = some (pk a b) := by
 obtain ⟨d, hd⟩ : ∃ d, Tryz.prog.types.size = d + 1 := ⟨Tryz.prog.types.size - 1, by have h : (210 : Nat) < Tryz.prog.types.size := row55; omega⟩
 have e : Tryz.prog.keyLits (d + 1 + 1) 210 [.int .i64 a, .int .i64 b] = some [.int .i64 a, .int .i64 b] := by
  simp [Program.keyLits, Tryz.underlying210, Tryz.underlying3, cells55, c3, ha, hb, List.range, List.range.loop]
 unfold keyOf
 rw [Tryz.underlying210]
 simp only [key55, formed55, Bool.and_self, if_true]
 rw [hd]
 have e2 : (Value.agg #[Value.int IntKind.i64 a, Value.int IntKind.i64 b]).cells.toList = [.int .i64 a, .int .i64 b] := by simp [Value.cells]
 rw [e2, e]
 rfl
theorem pk_inj {a b a' b' : Int} (ha : (Lit.int .i64 a).wf = true) (hb : (Lit.int .i64 b).wf = true) (ha' : (Lit.int .i64 a').wf = true) (hb' : (Lit.int .i64 b').wf = true) (h : pk a b = pk a' b') : a = a' ∧ b = b' := by
 have h1 := pk_some a b ha hb
 have h2 := pk_some a' b' ha' hb'
 rw [← h] at h2
 have := lawP.inj h1 h2
 simpa using this
open Go.RowKit Go.Maps Go.WideMaps
set_option linter.unusedVariables false

/-- The intergreens by their pairs, of the first k rows. -/
def mD (C : List Cf) : Nat → DataW Unit
 | 0 => .map []
 | k + 1 => match C[k]? with
   | some c => ((mD C k).put (pk c.a c.b) (.lit (.int .i64 c.ab))).put (pk c.b c.a) (.lit (.int .i64 c.ba))
   | none => mD C k
theorem mD_step (C : List Cf) (k : Nat) (h : k < C.length) : mD C (k + 1) = ((mD C k).put (pk C[k].a C[k].b) (.lit (.int .i64 C[k].ab))).put (pk C[k].b C[k].a) (.lit (.int .i64 C[k].ba)) := by
 simp only [mD]; rw [List.getElem?_eq_getElem h]
set_option maxRecDepth 100000 in
set_option maxHeartbeats 4000000 in
theorem streetOf_any (C : List Cf) (vg vc : Value) (w : World) (h2 : Fl 4 Cf.cs w vc C) (lC : C.length ≤ 4398046511000) (ok : ∀ (i : Nat) (h : i < C.length), C[i].ok) (hv : ∃ a n c, vg = .slice a n c) :
  Calls Tryz.prog 88 #[.agg #[vg, vc]] w fun e w' => (∃ mb, e = .returned (.agg #[vg, .map (some mb)]) ∧ w'.ownsMap (H := Unit) Tryz.prog 210 (plainElem Tryz.prog 3) mb (2 * C.length) (mD C C.length) ∧ w.heap.size ≤ mb ∧ mb < w'.heap.size) ∧ Below w.heap.size w w' := by
 obtain ⟨vb, cc, rfl, kC⟩ := h2.any
 obtain ⟨ga, gn, gc, rfl⟩ := hv
 clear h2
 have hmm : ∀ (W : World) (n : Int), 0 ≤ n → (Instr.makeMap 119 (some (.int .i64 n))).run Tryz.prog W = .ok (.map (some W.heap.size)) (W.alloc (.map #[] 0)) := fun W n hn => by simp [Instr.makeMap, underlying, Tryz.underlying119]; rfl
 have wl : IntKind.i64.wrap (2 * (C.length : Int)) = 2 * (C.length : Int) := wrap64 _ (by omega)
 have l0 : (0 : Int) ≤ 2 * (C.length : Int) := by omega
 go_enter Tryz.func88, Tryz.ntmps88
 go_upto_region 1 with fail
 have H1 : Has ((w.alloc (.cells #[.slice ga gn gc, .slice vb C.length cc] 25)).alloc (.cells #[.slice none 0 0, .map none] 121)) w.heap.size #[.slice ga gn gc, .slice vb C.length cc] := (Has.new _ _ _ rfl).alloc _
 have H2 : Has ((w.alloc (.cells #[.slice ga gn gc, .slice vb C.length cc] 25)).alloc (.cells #[.slice none 0 0, .map none] 121)) (w.heap.size + 1) #[.slice none 0 0, .map none] := Has.new _ _ _ (by simp)
 have HB : Below w.heap.size w ((w.alloc (.cells #[.slice ga gn gc, .slice vb C.length cc] 25)).alloc (.cells #[.slice none 0 0, .map none] 121)) := belA
 generalize ((w.alloc (.cells #[.slice ga gn gc, .slice vb C.length cc] 25)).alloc (.cells #[.slice none 0 0, .map none] 121)) = W0 at *
 have z0 : w.heap.size + 2 ≤ W0.heap.size := H2.1
 obtain ⟨_, i1, _⟩ := id H1
 go_cut [3] from 6 to 13 (fun s3 wx => ∃ mb sb, s3 = .pointer (some ⟨sb, 0, none⟩) ∧ Has wx sb #[.slice ga gn gc, .map (some mb)] ∧ Has wx w.heap.size #[.slice ga gn gc, .slice vb C.length cc] ∧ Has wx (w.heap.size + 1) #[.slice none 0 0, .map none] ∧ wx.ownsMap (H := Unit) Tryz.prog 210 (plainElem Tryz.prog 3) mb 0 (.map []) ∧ Below w.heap.size w wx ∧ w.heap.size + 2 ≤ mb ∧ w.heap.size + 2 ≤ sb ∧ mb ≠ sb ∧ mb < wx.heap.size)
 case first =>
  go_region
  all_goals (go_wp2_with fail; go_meet)
  case rel => exact ⟨W0.heap.size, W0.heap.size + 1, rfl, (Has.new _ _ _ (by simp)).drew, ((H1.alloc _).alloc _).drew, ((H2.alloc _).alloc _).drew, ((World.ownsMap_made W0 _ _ _).alloc _).drew, ((HB.alloc HB.size _).alloc (by have := HB.size; simp; omega) _).drew, by omega, by omega, by omega, by simp; omega⟩
  case rel => exact ⟨W0.heap.size + 1, W0.heap.size, rfl, ((Has.new _ _ _ rfl).alloc _).drew, ((H1.alloc _).alloc _).drew, ((H2.alloc _).alloc _).drew, (by have := World.ownsMap_made (H := Unit) (W0.alloc (.cells #[.slice ga gn gc, .map (some (W0.heap.size + 1))] 121)) Tryz.prog 210 (plainElem Tryz.prog 3); simp at this; exact this.drew), ((HB.alloc HB.size _).alloc (by have := HB.size; simp; omega) _).drew, by omega, by omega, by omega, by simp⟩
 case rest =>
  obtain ⟨mb, sb, rfl, S, B, R, hm0, hb, m1, s1, ms, ml⟩ := hcut
  clear H1 H2 HB i1 hmm wl l0 z0
  obtain ⟨_, y1, _⟩ := id B
  go_wp2
  go_loopw [17] (fun t wr => ∃ k : Nat, k ≤ C.length ∧ t = .int .i64 (k : Int) ∧ Hid (wr.ownsMap (H := Unit) Tryz.prog 210 (plainElem Tryz.prog 3) mb (2 * k) (mD C k)) ∧ Hid (Has wr sb #[.slice ga gn gc, .map (some mb)]) ∧ Hid (Has wr (w.heap.size + 1) #[.slice none 0 0, .map none]) ∧ Hid (Below w.heap.size w wr) ∧ mb < wr.heap.size) (fun t _ => C.length - (intOf t).toNat)
  case atStart => exact ⟨0, by omega, rfl, hm0, S, R, hb, ml⟩
  case round =>
   clear hm0 S B R hb y1 ml
   obtain ⟨k, hkl, rfl, hm, S, R, hb, ml⟩ := hrel
   obtain ⟨_, s2, s3⟩ := id S.out
   by_cases hlt : k < C.length
   ·obtain ⟨g, o, rfl, hg, P⟩ := kC.resolve_left (by intro e; rw [e] at hlt; simp at hlt)
    have p0 := (hb.out.cell (p := ⟨g, _, none⟩) hg).trans (P k hlt 0 _ rfl)
    have p1 := (hb.out.cell (p := ⟨g, _, none⟩) hg).trans (P k hlt 1 _ rfl)
    have p2 := (hb.out.cell (p := ⟨g, _, none⟩) hg).trans (P k hlt 2 _ rfl)
    have p3 := (hb.out.cell (p := ⟨g, _, none⟩) hg).trans (P k hlt 3 _ rfl)
    simp only [Nat.add_zero] at p0
    obtain ⟨o1, o2, o3, o4⟩ := ok k hlt
    have hst := mD_step C k hlt
    have t1 : (k : Int) < (C.length : Int) := by omega
    have t0 : (0 : Int) ≤ (k : Int) := by omega
    have t2 : k + 1 ≤ C.length := hlt
    clear P kC ok
    generalize C[k].a = xa at *
    generalize C[k].b = xb at *
    generalize C[k].ab = xab at *
    generalize C[k].ba = xba at *
    have k1 := pk_some xa xb o1 o2
    have k2 := pk_some xb xa o2 o1
    have e3 : plainElem (H := Unit) Tryz.prog 3 (.int .i64 xab) = some (.lit (.int .i64 xab), []) := plainElem_int Tryz.underlying3 o3
    have e4 : plainElem (H := Unit) Tryz.prog 3 (.int .i64 xba) = some (.lit (.int .i64 xba), []) := plainElem_int Tryz.underlying3 o4
    have hbN : Below w.heap.size w (wr.alloc (.cells #[.int .i64 xa, .int .i64 xb, .int .i64 xab, .int .i64 xba] 93)) := hb.out.alloc hb.out.size _
    have SN := S.out.alloc (.cells #[.int .i64 xa, .int .i64 xb, .int .i64 xab, .int .i64 xba] 93)
    have RN := R.out.alloc (.cells #[.int .i64 xa, .int .i64 xb, .int .i64 xab, .int .i64 xba] 93)
    have CN : Has (wr.alloc (.cells #[.int .i64 xa, .int .i64 xb, .int .i64 xab, .int .i64 xba] 93)) wr.heap.size #[.int .i64 xa, .int .i64 xb, .int .i64 xab, .int .i64 xba] := Has.new _ _ _ rfl
    have hmN := hm.out.alloc (.cells #[.int .i64 xa, .int .i64 xb, .int .i64 xab, .int .i64 xba] 93)
    clear o1 o2 o3 o4
    go_wp2_with (first
     | (at_mapUpdate; refine wpList_mapUpdate_own _ rfl _ _ _ 119 rfl 210 3 lawP Tryz.underlying119 (plainElem Tryz.prog 3) mb (2 * k) (mD C k) rfl hmN (by unfold maxLen; omega) _ _ (pk xa xb) rfl rfl k1 (.lit (.int .i64 xab)) [] e3 ?_; intro w2 hm2 hg2; have O2 : Only (fun q => some mb = some q) (wr.alloc (.cells #[.int .i64 xa, .int .i64 xb, .int .i64 xab, .int .i64 xba] 93)) w2 := only_grown (Only.refl _ _) hg2 (fun q hq => .inl hq); have S2 := SN.only O2 (fun e => ms (by injection e)); have R2 := RN.only O2 (fun e => by injection e with e; omega); have C2 := CN.only O2 (fun e => by injection e with e; omega); have hb2 := bel_only hbN O2 (Nat.le_refl _) (fun q hq e => by injection e with e; omega); have z2 := O2.size; obtain ⟨_, v1, v2⟩ := id S2; obtain ⟨_, u1, u2⟩ := id C2; clear hg2 hmN)
     | (at_mapUpdate; refine wpList_mapUpdate_own _ rfl _ _ _ 119 rfl 210 3 lawP Tryz.underlying119 (plainElem Tryz.prog 3) mb (2 * k + 1) _ rfl hm2 (by unfold maxLen; omega) _ _ (pk xb xa) rfl rfl k2 (.lit (.int .i64 xba)) [] e4 ?_; intro w3 hm3 hg3; have O3 : Only (fun q => some mb = some q) w2 w3 := only_grown (Only.refl _ _) hg3 (fun q hq => .inl hq); have S3 := S2.only O3 (fun e => ms (by injection e)); have R3 := R2.only O3 (fun e => by injection e with e; omega); have hb3 := bel_only hb2 O3 (Nat.le_refl _) (fun q hq e => by injection e with e; omega); have z3 := O3.size; clear hg3))
    have hm4 : w3.ownsMap (H := Unit) Tryz.prog 210 (plainElem Tryz.prog 3) mb (2 * (k + 1)) (mD C (k + 1)) := by rw [hst]; exact hm3
    have ml3 : mb < w3.heap.size := by simp at z2; omega
    go_roundw
    case rel => exact ⟨k + 1, by omega, by go_num, hm4, S3, R3, hb3, ml3⟩
    case measure => simp [intOf]; omega
   ·have t1 : ¬ (k : Int) < (C.length : Int) := by omega
    obtain rfl : k = C.length := by omega
    obtain ⟨_, r2, r3⟩ := id R.out
    go_wp2
    have K : Has ((wr.setCell ⟨w.heap.size + 1, 0, none⟩ (.slice ga gn gc)).setCell ⟨w.heap.size + 1, 1, none⟩ (.map (some mb))) (w.heap.size + 1) #[.slice ga gn gc, .map (some mb)] := by simpa using (R.out.set 0 (by simp) (.slice ga gn gc)).set 1 (by simp) (.map (some mb))
    have hmF := (hm.out.setCell (a := ⟨w.heap.size + 1, 0, none⟩) (by show mb ≠ w.heap.size + 1; omega) (.slice ga gn gc)).setCell (a := ⟨w.heap.size + 1, 1, none⟩) (by show mb ≠ w.heap.size + 1; omega) (.map (some mb))
    have hbF := (hb.out.setCell (p := ⟨w.heap.size + 1, 0, none⟩) (by simp) (.slice ga gn gc)).setCell (p := ⟨w.heap.size + 1, 1, none⟩) (by simp) (.map (some mb))
    obtain ⟨_, k1, _⟩ := id K
    exact bodyPost_ret (v := .agg #[.slice ga gn gc, .map (some mb)]) (by simp [results, Tryz.results88, go_sem, k1]) rfl ⟨⟨mb, rfl, hmF, by omega, by simpa [World.setCell] using ml⟩, hbF⟩
open Go.RowKit Go.Maps Go.WideMaps
set_option linter.unusedVariables false

def stepD (D : DataW Unit) (c : Cf) : DataW Unit := (D.put (pk c.a c.b) (.lit (.int .i64 c.ab))).put (pk c.b c.a) (.lit (.int .i64 c.ba))
theorem mD_fold (C : List Cf) : ∀ k, k ≤ C.length → mD C k = (C.take k).foldl stepD (.map [])
 | 0, _ => rfl
 | k + 1, h => by
   rw [mD_step C k (by omega), List.take_succ_eq_append_getElem (by omega), List.foldl_append, ← mD_fold C k (by omega)]
   rfl
theorem ordB_trans {b c d : Cf} (h1 : ordB b c = true) (h2 : ordB c d = true) : ordB b d = true := by
 simp [ordB] at *; omega
theorem rows_ord {n : Nat} : ∀ (cs : List Cf) (c : Cf), rowsB n (some c) cs = true → ∀ d ∈ cs, ordB c d = true ∧ cfB n d = true
 | [], _, _, d, hd => by cases hd
 | x :: xs, c, h, d, hd => by
   simp [rowsB, ordP] at h
   rcases List.mem_cons.1 hd with rfl | hd
   ·exact ⟨h.1.2, h.1.1⟩
   ·have ih := rows_ord xs x h.2 d hd
    exact ⟨ordB_trans h.1.2 ih.1, ih.2⟩
theorem inter_none : ∀ (cs : List Cf) (o g : Int), (∀ d ∈ cs, ¬ (d.a = o ∧ d.b = g) ∧ ¬ (d.a = g ∧ d.b = o)) → interF cs o g = (0, false)
 | [], _, _, _ => rfl
 | d :: cs, o, g, h => by
   have h1 := h d (by simp)
   unfold interF
   rw [if_neg h1.1, if_neg h1.2]
   exact inter_none cs o g (fun e he => h e (by simp [he]))
theorem stepD_map {D : DataW Unit} (h : IsMap D) (c : Cf) : IsMap (stepD D c) := (h.put _ _).put _ _
/-- What the map says of a pair. -/
theorem fold_at {n : Nat} : ∀ (cs : List Cf) (p : Option Cf) (D : DataW Unit) (o g : Int) (z : DataW Unit), IsMap D → rowsB n p cs = true → (∀ d ∈ cs, d.ok) → (Lit.int .i64 o).wf = true → (Lit.int .i64 g).wf = true →
  (cs.foldl stepD D).atKey (pk o g) z = (if (interF cs o g).2 = true then .lit (.int .i64 (interF cs o g).1) else D.atKey (pk o g) z) ∧ Maps.has (cs.foldl stepD D) (pk o g) = ((interF cs o g).2 || Maps.has D (pk o g))
 | [], _, D, o, g, z, _, _, _, _, _ => by simp [interF]
 | c :: cs, p, D, o, g, z, hD, hr, ok, wo, wg => by
   have okc := ok c (by simp)
   simp [rowsB] at hr
   have hr1 := hr.1.1
   have hr2 := hr.2
   have so := rows_ord cs c hr2
   have ih := fold_at cs (some c) (stepD D c) o g z (stepD_map hD c) hr2 (fun d hd => ok d (by simp [hd])) wo wg
   have ab : c.a < c.b := by simp [cfB] at hr1; exact hr1.2.1
   have ne1 : pk c.a c.b ≠ pk c.b c.a := fun e => by have := pk_inj okc.1 okc.2.1 okc.2.1 okc.1 e; omega
   have later : ∀ d ∈ cs, ¬ (d.a = c.a ∧ d.b = c.b) ∧ ¬ (d.a = c.b ∧ d.b = c.a) := fun d hd => by
    have h1 := so d hd
    have h2 := h1.1
    have h3 := h1.2
    simp [ordB] at h2
    simp [cfB] at h3
    constructor <;> omega
   have k1 : WideAt.IsKeyLit (pk c.a c.b) := trivial
   have k2 : WideAt.IsKeyLit (pk c.b c.a) := trivial
   rw [List.foldl_cons, ih.1, ih.2]
   by_cases m1 : c.a = o ∧ c.b = g
   ·obtain ⟨rfl, rfl⟩ := m1
    have e1 : interF (c :: cs) c.a c.b = (c.ab, true) := by simp [interF]
    rw [inter_none cs c.a c.b later, e1]
    constructor
    ·simp [stepD, atKey_put_other ne1, atKey_put_same hD k1]
    ·simp [stepD, has_put_other ne1, has_put_same hD k1]
   ·by_cases m2 : c.a = g ∧ c.b = o
    ·obtain ⟨rfl, rfl⟩ := m2
     have e1 : interF (c :: cs) c.b c.a = (c.ba, true) := by
      have : ¬ (c.a = c.b ∧ c.b = c.a) := by omega
      simp [interF, this]
     rw [inter_none cs c.b c.a (fun d hd => ⟨(later d hd).2, (later d hd).1⟩), e1]
     constructor
     ·simp [stepD, atKey_put_same (hD.put _ _) k2]
     ·simp [stepD, has_put_same (hD.put _ _) k2]
    ·have e1 : interF (c :: cs) o g = interF cs o g := by
      show (if c.a = o ∧ c.b = g then _ else if c.a = g ∧ c.b = o then _ else _) = _
      rw [if_neg m1, if_neg m2]
     have n1 : pk o g ≠ pk c.a c.b := fun e => by have := pk_inj wo wg okc.1 okc.2.1 e; exact m1 ⟨this.1.symm, this.2.symm⟩
     have n2 : pk o g ≠ pk c.b c.a := fun e => by have := pk_inj wo wg okc.2.1 okc.1 e; exact m2 ⟨this.2.symm, this.1.symm⟩
     rw [e1]
     simp [stepD, atKey_put_other n1, atKey_put_other n2, has_put_other n1, has_put_other n2]
/-- .. of sound tables. -/
theorem mD_at {G : List Gp} {C : List Cf} (gr : gridB G C = true) (ok : ∀ (i : Nat) (h : i < C.length), C[i].ok) (o g : Int) (wo : (Lit.int .i64 o).wf = true) (wg : (Lit.int .i64 g).wf = true) (z : DataW Unit) :
  (mD C C.length).atKey (pk o g) z = (if (interF C o g).2 = true then .lit (.int .i64 (interF C o g).1) else z) ∧ Maps.has (mD C C.length) (pk o g) = (interF C o g).2 := by
 have hr : rowsB G.length none C = true := by simp [gridB] at gr; exact gr.2.2
 have h := fold_at C none (.map []) o g z isMap_empty hr (fun d hd => by obtain ⟨i, hi, rfl⟩ := List.mem_iff_getElem.1 hd; exact ok i hi) wo wg
 rw [mD_fold C C.length (Nat.le_refl _), List.take_length]
 refine ⟨h.1.trans ?_, h.2.trans ?_⟩
 ·simp [DataW.atKey]
 ·simp [Maps.has]
open Go.RowKit Go.Maps Go.WideMaps
set_option linter.unusedVariables false

/-- The greatest wait for a group of a mask. -/
def wA (C : List Cf) (A : Nat) (g : Int) : List Gp → Nat → Int → Int
 | [], _, w => w
 | x :: xs, o, w => wA C A g xs (o + 1) (if hasN A (o : Int) = true then (if w < waitV x C (o : Int) g then waitV x C (o : Int) g else w) else w)
theorem wF_wA (C : List Cf) (F T A : Nat) (all : Bool) (g : Int) : ∀ (G : List Gp) (o : Nat) (w : Int), (∀ k, o ≤ k → k < o + G.length → hasN A (k : Int) = (all || loses F T k)) → wF C F T all g G o w = wA C A g G o w
 | [], _, _, _ => rfl
 | x :: xs, o, w, h => by
   unfold wF wA
   rw [h o (Nat.le_refl _) (by simp)]
   exact wF_wA C F T A all g xs (o + 1) _ (fun k h1 h2 => h k (by omega) (by simp; omega))
/-- It is at least each of them, and one of them, or what it began with. -/
theorem wA_max (C : List Cf) (A : Nat) (g : Int) : ∀ (G : List Gp) (o : Nat) (w : Int), w ≤ wA C A g G o w ∧ (∀ (i : Nat) (h : i < G.length), hasN A ((o + i : Nat) : Int) = true → waitV G[i] C ((o + i : Nat) : Int) g ≤ wA C A g G o w) ∧
  (wA C A g G o w = w ∨ ∃ (i : Nat) (h : i < G.length), hasN A ((o + i : Nat) : Int) = true ∧ wA C A g G o w = waitV G[i] C ((o + i : Nat) : Int) g)
 | [], _, w => ⟨by simp [wA], fun i h => by simp at h, .inl rfl⟩
 | x :: xs, o, w => by
   obtain ⟨i1, i2, i3⟩ := wA_max C A g xs (o + 1) (if hasN A (o : Int) = true then (if w < waitV x C (o : Int) g then waitV x C (o : Int) g else w) else w)
   have e : wA C A g (x :: xs) o w = wA C A g xs (o + 1) (if hasN A (o : Int) = true then (if w < waitV x C (o : Int) g then waitV x C (o : Int) g else w) else w) := rfl
   rw [e]
   refine ⟨?_, fun i h hm => ?_, ?_⟩
   ·refine Int.le_trans ?_ i1
    split
    ·split <;> omega
    ·omega
   ·cases i with
    | zero =>
      simp only [Nat.add_zero] at hm ⊢
      refine Int.le_trans ?_ i1
      rw [if_pos hm]
      show waitV x C (o : Int) g ≤ _
      split <;> omega
    | succ i =>
      have := i2 i (by simpa using h) (by rw [show o + 1 + i = o + (i + 1) by omega]; exact hm)
      rw [show o + 1 + i = o + (i + 1) by omega] at this
      simpa using this
   ·rcases i3 with i3 | ⟨i, hi, hm, hv⟩
    ·by_cases ha : hasN A (o : Int) = true
     ·rw [if_pos ha] at i3 ⊢
      by_cases hl : w < waitV x C (o : Int) g
      ·rw [if_pos hl] at i3 ⊢
       exact .inr ⟨0, by simp, by simpa using ha, by simpa using i3⟩
      ·rw [if_neg hl] at i3 ⊢
       exact .inl i3
     ·rw [if_neg ha] at i3 ⊢
      exact .inl i3
    ·refine .inr ⟨i + 1, by simpa using hi, ?_, ?_⟩
     ·rw [show o + (i + 1) = o + 1 + i by omega]; exact hm
     ·rw [hv, show o + (i + 1) = o + 1 + i by omega]; simp
/-- Groups of a pair that the tables name. -/
theorem inter_range {n : Nat} : ∀ (cs : List Cf) (p : Option Cf) (o g : Int), rowsB n p cs = true → (interF cs o g).2 = true → (0 ≤ o ∧ o < (n : Int)) ∧ 0 ≤ g ∧ g < (n : Int)
 | [], _, _, _, _, h => by simp [interF] at h
 | c :: cs, p, o, g, hr, h => by
   simp [rowsB, cfB] at hr
   have ih := inter_range cs (some c) o g hr.2
   unfold interF at h
   split at h
   ·omega
   ·split at h
    ·omega
    ·exact ih h
open Go.RowKit Go.Maps Go.WideMaps
set_option linter.unusedVariables false
def valsN (V : Nat → Int) (n : Nat) : List Value := (List.range n).map fun i => .int .i64 (V i)
theorem wfn {n : Nat} (h : n ≤ 2932031007317) : (Lit.int .i64 (n : Int)).wf = true := by
 simp [Lit.wf, IntKind.min, IntKind.max, IntKind.bits, IntKind.signed]
 omega
theorem ranges_drewN {w : World} {b r n cnt : Nat} {D : DataW Unit} {left : Lit → Bool} (h : w.ranges (H := Unit) Tryz.prog 210 (plainElem Tryz.prog 3) b r n D left cnt) (m : Nat) : (w.drewN m).ranges (H := Unit) Tryz.prog 210 (plainElem Tryz.prog 3) b r n D left cnt := by
 induction m generalizing w with
 | zero => exact h
 | succ m ih => exact ih (w := w.drew) h
theorem ranges_set {w : World} {b r n cnt q i : Nat} {v : Value} {D : DataW Unit} {left : Lit → Bool} (h : w.ranges (H := Unit) Tryz.prog 210 (plainElem Tryz.prog 3) b r n D left cnt) (h1 : b ≠ q) (h2 : r ≠ q) : (w.setCell ⟨q, i, none⟩ v).ranges (H := Unit) Tryz.prog 210 (plainElem Tryz.prog 3) b r n D left cnt := by
 obtain ⟨es, clock, since, seen, c0, hb, F, hs, hD, hr, rest⟩ := h
 exact ⟨es, clock, since, seen, c0, (Below.heap_setCell _ _ _ _ h1).trans hb, F, hs, hD, (Below.heap_setCell _ _ _ _ h2).trans hr, rest⟩
structure InvV (G : List Gp) (C : List Cf) (A : Nat) (V : Nat → Int) (left : Lit → Bool) : Prop where
 nn : ∀ i, i < G.length → 0 ≤ V i ∧ V i ≤ 3600
 ge : ∀ (o i : Nat) (ho : o < G.length), i < G.length → hasN A (o : Int) = true → (interF C (o : Int) (i : Int)).2 = true → left (pk (o : Int) (i : Int)) = false → waitV G[o] C (o : Int) (i : Int) ≤ V i
 is : ∀ i, i < G.length → V i = 0 ∨ ∃ (o : Nat) (ho : o < G.length), hasN A (o : Int) = true ∧ V i = waitV G[o] C (o : Int) (i : Int)
set_option maxRecDepth 100000 in
theorem pair_wf (key : Value) (kl : Lit) (h : keyOf Tryz.prog 210 key = some kl) : ∃ p : Int × Int, key = .agg #[.int .i64 p.1, .int .i64 p.2] ∧ (Lit.int .i64 p.1).wf = true ∧ (Lit.int .i64 p.2).wf = true ∧ kl = pk p.1 p.2 := by
 obtain ⟨d, hd⟩ : ∃ d, Tryz.prog.types.size = d + 1 := ⟨Tryz.prog.types.size - 1, by have h : (210 : Nat) < Tryz.prog.types.size := row55; omega⟩
 unfold keyOf at h
 rw [Tryz.underlying210] at h
 simp only [key55, Bool.true_and] at h
 split at h
 ·rename_i hf
  rw [hd] at h
  cases key with
  | agg cs =>
    simp [Value.formed, Tryz.underlying210, cells55] at hf
    obtain ⟨l⟩ := cs
    match l, hf with
    | [x, y], _ =>
      simp [Program.keyLits, Tryz.underlying210, Tryz.underlying3, cells55, c3, List.range, List.range.loop, Value.cells] at h
      cases x <;> simp at h
      rename_i q1 n1 _
      by_cases c1 : q1 = IntKind.i64 ∧ (Lit.int IntKind.i64 n1).wf = true
      ·obtain ⟨rfl, w1⟩ := c1
       simp [w1] at h
       cases y <;> simp at h
       rename_i q2 n2 _
       by_cases c2 : q2 = IntKind.i64 ∧ (Lit.int IntKind.i64 n2).wf = true
       ·obtain ⟨rfl, w2⟩ := c2
        simp [w2] at h
        exact ⟨(n1, n2), rfl, w1, w2, by rw [← h]; rfl⟩
       ·simp [c2] at h
      ·simp [c1] at h
  | _ => simp [Value.formed, Tryz.underlying210] at hf
 ·cases h
set_option maxRecDepth 100000 in
theorem pair_inv (key : Value) (kl : Lit) (h : keyOf Tryz.prog 210 key = some kl) : ∃ p : Int × Int, key = .agg #[.int .i64 p.1, .int .i64 p.2] := by
 obtain ⟨p, h1, _⟩ := pair_wf key kl h
 exact ⟨p, h1⟩
theorem made_vals (n : Nat) : (madeCells (Value.int IntKind.i64 0).cells (n * 1)).toList = valsN (fun _ => 0) n := by
 apply List.ext_getElem?
 intro i
 simp [madeCells, valsN, Value.cells]
 cases (List.range n)[i]? with
 | none => rfl
 | some x => simp [Nat.mod_one]
set_option maxRecDepth 100000 in
set_option maxHeartbeats 4000000 in
theorem waitsFor_any (G : List Gp) (C : List Cf) (vg : Value) (mb A : Nat) (w : World) (hA : A < 18446744073709551616) (h1 : Fl 5 Gp.cs w vg G) (lG : G.length ≤ 2932031007317) (lC : C.length ≤ 4398046511000) (gr : gridB G C = true) (ok : ∀ (i : Nat) (h : i < C.length), C[i].ok)
  (hm : w.ownsMap (H := Unit) Tryz.prog 210 (plainElem Tryz.prog 3) mb (2 * C.length) (mD C C.length)) (hmb : mb < w.heap.size) :
  Calls Tryz.prog 90 #[.agg #[vg, .map (some mb)], .int .u64 (A : Int)] w fun e w' => (∃ aw cw, e = .returned (.slice aw G.length cw) ∧ (G = [] ∨ ∃ gw, aw = some ⟨gw, 0, none⟩ ∧ gw < w'.heap.size ∧ ∀ i, i < G.length → w'.cell? ⟨gw, i, none⟩ = some (.int .i64 (wA C A (i : Int) G 0 0)) ∧ 0 ≤ wA C A (i : Int) G 0 0 ∧ wA C A (i : Int) G 0 0 ≤ 3600)) ∧ Below w.heap.size w w' := by
 obtain ⟨va, cg, rfl, kG⟩ := h1.any
 clear h1
 obtain ⟨i3, h3, h31, h32, h33⟩ := info_parts info3
 have hm0 := hm.alloc (.cells #[.slice va G.length cg, .map (some mb)] 121)
 go_enter Tryz.func90, Tryz.ntmps90
 go_wp2_with (first
  | (refine wpList_make_full _ rfl _ _ 113 rfl (w.heap.size + 1) 3 i3 _ 1 Tryz.underlying113 h3 h31 h32 .i64 .i64 (G.length : Int) (G.length : Int) G.length rfl rfl rfl rfl (by rw [h33]; omega) (by unfold maxLen; omega) (by simp) ?_; intro W0 own0 hg0; have HB0 := grown_none hg0; have B0 : Has W0 w.heap.size #[.slice va G.length cg, .map (some mb)] := (Has.new w _ _ rfl).below HB0; have hm1 := hm0.kept hg0 (by simp); have hbW : Below w.heap.size w W0 := bel_after belN1 (by simp) HB0; obtain ⟨_, b0, _⟩ := id B0; clear HB0 hg0)
  | (at_range; refine wpList_range_own _ rfl _ 119 rfl 210 3 lawP Tryz.underlying119 _ mb (2 * C.length) (mD C C.length) rfl hm1 ?_; intro w0 hrg0 hg1 hs0; have HB1 := grown_none hg1; have B1 := B0.below HB1; have hb1 := bel_after hbW hbW.size HB1; have own1 := own_bel own0 HB1; clear HB1 hg1))
 go_frame
 have zW : w.heap.size + 1 < W0.heap.size := (own_lt own0 (w.heap.size + 1) (by simp [Value.ownBlock])).2
 go_loopw [7] (fun _ wr => ∃ (left : Lit → Bool) (cnt : Nat) (V : Nat → Int), Hid (wr.ranges (H := Unit) Tryz.prog 210 (plainElem Tryz.prog 3) mb W0.heap.size (2 * C.length) (mD C C.length) left cnt) ∧ Hid (wr.ownsRow (w.heap.size + 1) 3 1 (.slice (some ⟨w.heap.size + 1, 0, none⟩) G.length G.length) G.length (valsN V G.length)) ∧ Hid (InvV G C A V left) ∧ Hid (Has wr w.heap.size #[.slice va G.length cg, .map (some mb)]) ∧ Hid (Below w.heap.size w wr)) (fun _ wr => wr.rangeLeft mb W0.heap.size)
 case atStart =>
  refine ⟨_, _, fun _ => 0, hrg0, ?_, ?_, B1, hb1⟩
  ·have := own1
   rw [made_vals] at this
   show World.ownsRow _ _ _ _ _ _ _
   simpa using this
  ·refine ⟨fun i hi => ⟨by omega, by omega⟩, fun o i ho hi ha hin hl => ?_, fun i hi => .inl rfl⟩
   have := (mD_at gr ok (o : Int) (i : Int) (wfn (by omega)) (wfn (by omega)) .nil).2
   rw [hin] at this
   rw [this] at hl
   cases hl
 case round =>
  clear hrg0 own0 own1 B1 hb1 B0 b0 hm1 hbW
  obtain ⟨left, cnt, V, hrg, hown, hinv, B, hb⟩ := hrel
  obtain ⟨_, b1, _⟩ := id B.out
  go_wp2_with (at_next; refine wpList_next_ranges _ rfl _ rfl 210 lawP (plainElem Tryz.prog 3) (fun p : Int × Int => .agg #[.int .i64 p.1, .int .i64 p.2]) (fun c : Int => .int .i64 c) pair_inv (fun v y hv => by obtain ⟨c, rfl, _⟩ := plainElem_int_inv Tryz.underlying3 hv; exact ⟨c, rfl⟩) mb W0.heap.size (2 * C.length) (mD C C.length) left cnt rfl hrg.out ?_ ?_)
  ·intro hc0 hl0
   go_wp2
   go_ret
   refine ⟨⟨some ⟨w.heap.size + 1, 0, none⟩, G.length, rfl, .inr ⟨w.heap.size + 1, rfl, (own_lt hown.out _ rfl).2, fun i hi => ?_⟩⟩, hb.out⟩
   have hv := hinv.out
   have mx := wA_max C A (i : Int) G 0 0
   have eV : V i = wA C A (i : Int) G 0 0 := by
    have hge : ∀ (o : Nat) (ho : o < G.length), hasN A (o : Int) = true → waitV G[o] C (o : Int) (i : Int) ≤ V i := fun o ho ha => by
     cases hin : (interF C (o : Int) (i : Int)).2 with
     | true => exact hv.ge o i ho hi ha hin (hl0 _)
     | false =>
       have e0 : waitV G[o] C (o : Int) (i : Int) = 0 := by simp [waitV, hin]
       have := hv.nn i hi
       omega
    refine Int.le_antisymm ?_ ?_
    ·rcases hv.is i hi with h | ⟨o, ho, ha, h⟩
     ·rw [h]; exact mx.1
     ·rw [h]; have := mx.2.1 o ho (by simpa using ha); simpa using this
    ·rcases mx.2.2 with h | ⟨o, ho, ha, h⟩
     ·rw [h]; exact (hv.nn i hi).1
     ·rw [h]; have := hge o ho (by simpa using ha); simpa using this
   refine ⟨own_reads hown.out rfl _ _ ?_, ?_, ?_⟩
   ·simp [valsN, hi, eV]
   ·rw [← eV]; exact (hv.nn i hi).1
   ·rw [← eV]; exact (hv.nn i hi).2
  ·intro xo xg c kl y1 y2 w1 cnt1 hkey hlk hv hat hrg1 hlt hg1 hs1 hen
   obtain ⟨⟨a', b'⟩, e1, wo, wg, rfl⟩ := pair_wf _ _ hkey
   simp at e1
   obtain ⟨rfl, rfl⟩ := e1
   simp only at *
   have hr : rowsB G.length none C = true := by simp [gridB] at gr; exact gr.2.2
   have m0 := (mD_at gr ok xo xg wo wg .nil).1
   have m1 := (mD_at gr ok xo xg wo wg (.lit (.bool true))).1
   rw [hat] at m0 m1
   have hin : (interF C xo xg).2 = true := by
    cases hh : (interF C xo xg).2 with
    | true => rfl
    | false => rw [hh] at m0 m1; simp at m0 m1; rw [m0] at m1; cases m1
   rw [hin] at m0
   simp at m0
   obtain ⟨c', ec, ey, wc⟩ := plainElem_int_inv Tryz.underlying3 hv
   have ecc : c = (interF C xo xg).1 := by
    injection ec with _ ec
    have : y1 = .lit (.int .i64 c') := by have := congrArg Prod.fst ey; simpa using this
    rw [m0] at this
    injection this with this
    injection this with _ this
    omega
   obtain ⟨⟨ro1, ro2⟩, rg1, rg2⟩ := inter_range C none xo xg hr hin
   obtain ⟨o, rfl⟩ : ∃ o : Nat, xo = (o : Int) := ⟨xo.toNat, by omega⟩
   obtain ⟨g, rfl⟩ : ∃ g : Nat, xg = (g : Int) := ⟨xg.toNat, by omega⟩
   have ho : o < G.length := by omega
   have hgl : g < G.length := by omega
   obtain ⟨gg, oo, rfl, hgg, P⟩ := kG.resolve_left (by intro e; rw [e] at ho; simp at ho)
   have O1 : Only (fun q => some W0.heap.size = some q) wr w1 := only_grown (Only.refl _ _) hg1 (fun q hq => .inl hq)
   have B1 := B.out.only O1 (fun e => by injection e with e; omega)
   have own1 := own_only2 hown.out O1 (fun q hq e => by have e1 : w.heap.size + 1 = q := (by injection hq); injection e with e; omega)
   have hb1 := bel_only hb.out O1 (Nat.le_refl _) (fun q hq e => by injection e with e; omega)
   have hiv := hinv.out
   have wv := wait_in gr o ho (o : Int) (g : Int)
   have ew : waitV G[o] C (o : Int) (g : Int) = (if G[o].amber > c then G[o].amber else c) := by rw [ecc]; simp [waitV, hin]
   have p3 : ∀ W : World, Below w.heap.size w W → W.cell? ⟨gg, oo + o * 5 + 3, none⟩ = some (.int .i64 G[o].amber) := fun W h => (h.cell (p := ⟨gg, _, none⟩) hgg).trans (P o ho 3 _ rfl)
   have hH := fun (W : World) => hasS_any A (o : Int) W hA (by omega)
   have hrg0' := hrg.out
   clear hg1 m0 m1 ey ec hv hat hkey hr B hb
   obtain ⟨_, b2, _⟩ := id B1
   have ecc' : Hid (c = (interF C (o : Int) (g : Int)).1) := ecc
   clear ecc
   have hrA := hrg1.alloc (.cells #[.int .i64 (o : Int), .int .i64 (g : Int)] 210)
   have ownA := own1.alloc (.cells #[.int .i64 (o : Int), .int .i64 (g : Int)] 210)
   have BA := B1.alloc (.cells #[.int .i64 (o : Int), .int .i64 (g : Int)] 210)
   have hbA : Below w.heap.size w (w1.alloc (.cells #[.int .i64 (o : Int), .int .i64 (g : Int)] 210)) := hb1.alloc hb1.size _
   have mono : ∀ z, (left z && !z.sameKey (pk (o : Int) (g : Int))) = false → left z = false ∨ z = pk (o : Int) (g : Int) := fun z h => by
    cases hl : left z with
    | false => exact .inl rfl
    | true => rw [hl] at h; simp at h; exact .inr (WideAt.sameKey_eq h)
   cases ha : hasN A (o : Int) with
   | false =>
     rw [ha] at hH
     have inv2 : InvV G C A V (fun z => left z && !z.sameKey (pk (o : Int) (g : Int))) := by
      refine ⟨hiv.nn, fun o' i ho' hi ha' hin' hl => ?_, hiv.is⟩
      rcases mono _ hl with h | h
      ·exact hiv.ge o' i ho' hi ha' hin' h
      ·have := pk_inj (wfn (by omega)) (wfn (by omega)) wo wg h
       have e : o' = o := by omega
       subst e
       rw [ha] at ha'
       cases ha'
     clear p3 ew wv P hiv hinv mono
     go_wp2
     go_quiet (fail)
     go_wp2_with (go_at_call 108; (with_reducible refine Calls.mono (hH _) ?_); rintro e w2 ⟨rfl, rfl⟩)
     go_roundw
     case rel => exact ⟨_, cnt1, V, ranges_drewN hrA nq, own_bel ownA (bel_drewN (Below.refl _ _)), inv2, BA.drewN nq, bel_drewN hbA⟩
     case measure => rw [(ranges_drewN hrA nq).left_eq, hrg0'.left_eq]; omega
   | true =>
     rw [ha] at hH
     go_wp2
     go_quiet (fail)
     go_wp2_with (go_at_call 108; (with_reducible refine Calls.mono (hH _) ?_); rintro e w2 ⟨rfl, rfl⟩)
     have ownX := own_bel ownA (bel_drewN (n := nq) (Below.refl _ _))
     have BX := BA.drewN nq
     have hbX := bel_drewN (n := nq) hbA
     have hrX := ranges_drewN hrA nq
     have p3X := p3 _ hbX
     have c1 := own_reads ownX rfl g (.int .i64 (V g)) (by simp [valsN, hgl])
     have fz := ownX.frozenAt
     have t1 : (g : Int) < (G.length : Int) := by omega
     have t2 : (o : Int) < (G.length : Int) := by omega
     have t3 : (0 : Int) ≤ (g : Int) := by omega
     have t4 : (0 : Int) ≤ (o : Int) := by omega
     generalize hX : World.drewN _ _ = X at *
     clear hX ownA BA hbA hrA own1 B1 hb1 hrg1 b2 P p3
     obtain ⟨_, b3, _⟩ := id BX
     generalize G[o].amber = am at *
     have vle : V g ≤ (if am > (if c > V g then c else V g) then am else (if c > V g then c else V g)) ∧ (if am > c then am else c) ≤ (if am > (if c > V g then c else V g) then am else (if c > V g then c else V g)) ∧ ((if am > (if c > V g then c else V g) then am else (if c > V g then c else V g)) = V g ∨ (if am > (if c > V g then c else V g) then am else (if c > V g then c else V g)) = (if am > c then am else c)) := by
      refine ⟨?_, ?_, ?_⟩ <;> (repeat' split) <;> omega
     generalize hval : (if am > (if c > V g then c else V g) then am else (if c > V g then c else V g)) = val at *
     have hvs : (valsN V G.length).set g (.int .i64 val) = valsN (fun i => if i = g then val else V i) G.length := by
      apply List.ext_getElem?
      intro i
      by_cases e : i = g
      ·subst e
       rw [List.getElem?_set_self (by simp [valsN]; omega)]
       simp [valsN, hgl]
      ·rw [List.getElem?_set_ne (by omega)]
       simp only [valsN, List.getElem?_map]
       cases hx : (List.range G.length)[i]? with
       | none => rfl
       | some x =>
         have : x = i := by have := List.getElem?_eq_some_iff.1 hx; obtain ⟨h1, h2⟩ := this; simpa using h2.symm
         subst this
         simp [e]
     have ownF := ((ownX.stored g (.int .i64 val)).1).drew
     rw [hvs] at ownF
     have BF := (BX.far (c := w.heap.size + 1) (i := g) (by omega) (.int .i64 val)).drew
     have hbF := (hbX.setCell (p := ⟨w.heap.size + 1, g, none⟩) (by simp) (.int .i64 val)).drew
     have hrF : (X.setCell ⟨w.heap.size + 1, g, none⟩ (.int .i64 val)).drew.ranges (H := Unit) Tryz.prog 210 (plainElem Tryz.prog 3) mb W0.heap.size (2 * C.length) (mD C C.length) (fun z => left z && !z.sameKey (pk (o : Int) (g : Int))) cnt1 := ranges_set hrX (by omega) (by omega)
     have inv2 : InvV G C A (fun i => if i = g then val else V i) (fun z => left z && !z.sameKey (pk (o : Int) (g : Int))) := by
      have ng := hiv.nn g hgl
      refine ⟨fun i hi => ?_, fun o' i ho' hi ha' hin' hl => ?_, fun i hi => ?_⟩
      ·by_cases e : i = g
       ·simp only [e, if_true]; omega
       ·simp only [e, if_false]; exact hiv.nn i hi
      ·rcases mono _ hl with h | h
       ·have := hiv.ge o' i ho' hi ha' hin' h
        by_cases e : i = g
        ·subst e; simp only [if_true]; omega
        ·simp only [e, if_false]; exact this
       ·have := pk_inj (wfn (by omega)) (wfn (by omega)) wo wg h
        have e1 : o' = o := by omega
        have e2 : i = g := by omega
        subst e1 e2
        simp only [if_true]
        omega
      ·by_cases e : i = g
       ·subst e
        simp only [if_true]
        rcases vle.2.2 with h | h
        ·rcases hiv.is i hi with h' | ⟨o', ho', ha', h'⟩
         ·exact .inl (by omega)
         ·exact .inr ⟨o', ho', ha', by omega⟩
        ·exact .inr ⟨o, ho, ha, by omega⟩
       ·simp only [e, if_false]; exact hiv.is i hi
     have mL : cnt1 < cnt := hlt
     clear hvs mono hiv hinv hown vle
     go_region
     go_wp2
     go_roundw
     case rel => exact ⟨_, cnt1, _, hrF, ownF, inv2, BF, hbF⟩
     case measure => rw [World.ranges.left_eq hrF, hrg0'.left_eq]; omega
end Go.Proofs.YtnicolaphmffkaaGreatDoor
