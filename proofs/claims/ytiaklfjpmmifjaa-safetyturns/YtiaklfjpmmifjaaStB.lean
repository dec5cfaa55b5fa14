import Derived.Test.YtiaklfjpmmifjaaStA
import Derived.Deep.CutRange
namespace Go.Proofs.Ytiaklfjpmmifjaa
open Go.RowKit Go.Maps Go.WideMaps
set_option linter.unusedVariables false


/-- The intergreens by their pairs, of the first k rows. -/
def mD (C : List Cf) : Nat → DataW Unit
  | 0 => .map []
  | k + 1 => match C[k]? with
    | some c => ((mD C k).put (pk c.a c.b) (.lit (.int .i64 c.ab))).put (pk c.b c.a) (.lit (.int .i64 c.ba))
    | none => mD C k
theorem mD_step (C : List Cf) (k : Nat) (h : k < C.length) : mD C (k + 1) = ((mD C k).put (pk C[k].a C[k].b) (.lit (.int .i64 C[k].ab))).put (pk C[k].b C[k].a) (.lit (.int .i64 C[k].ba)) := by
  simp only [mD]; rw [List.getElem?_eq_getElem h]
set_option maxRecDepth 100000 in
set_option maxHeartbeats 4000000 in
theorem streetOf_any (C : List Cf) (vg vc : Value) (w : World) (h2 : Fl 4 Cf.cs w vc C) (lC : C.length ≤ 4398046511000) (ok : ∀ (i : Nat) (h : i < C.length), C[i].ok) (hv : ∃ a n c, vg = .slice a n c) :
    Calls Try.prog 33 #[.agg #[vg, vc]] w fun e w' => (∃ mb, e = .returned (.agg #[vg, .map (some mb)]) ∧ w'.ownsMap (H := Unit) Try.prog 55 (plainElem Try.prog 3) mb (2 * C.length) (mD C C.length) ∧ w.heap.size ≤ mb ∧ mb < w'.heap.size) ∧ Below w.heap.size w w' := by
  obtain ⟨vb, cc, rfl, kC⟩ := h2.any
  obtain ⟨ga, gn, gc, rfl⟩ := hv
  clear h2
  have hmm : ∀ (W : World) (n : Int), 0 ≤ n → (Instr.makeMap 70 (some (.int .i64 n))).run Try.prog W = .ok (.map (some W.heap.size)) (W.alloc (.map #[] 0)) := fun W n hn => by simp [Instr.makeMap, underlying, Try.underlying70]; rfl
  have wl : IntKind.i64.wrap (2 * (C.length : Int)) = 2 * (C.length : Int) := wrap64 _ (by omega)
  have l0 : (0 : Int) ≤ 2 * (C.length : Int) := by omega
  go_enter Try.func33, Try.ntmps33
  go_upto_region 1 with fail
  have H1 : Has ((w.alloc (.cells #[.slice ga gn gc, .slice vb C.length cc] 25)).alloc (.cells #[.slice none 0 0, .map none] 72)) w.heap.size #[.slice ga gn gc, .slice vb C.length cc] := (Has.new _ _ _ rfl).alloc _
  have H2 : Has ((w.alloc (.cells #[.slice ga gn gc, .slice vb C.length cc] 25)).alloc (.cells #[.slice none 0 0, .map none] 72)) (w.heap.size + 1) #[.slice none 0 0, .map none] := Has.new _ _ _ (by simp)
  have HB : Below w.heap.size w ((w.alloc (.cells #[.slice ga gn gc, .slice vb C.length cc] 25)).alloc (.cells #[.slice none 0 0, .map none] 72)) := belA
  generalize ((w.alloc (.cells #[.slice ga gn gc, .slice vb C.length cc] 25)).alloc (.cells #[.slice none 0 0, .map none] 72)) = W0 at *
  have z0 : w.heap.size + 2 ≤ W0.heap.size := H2.1
  obtain ⟨_, i1, _⟩ := id H1
  go_cut [3] from 6 to 13 (fun s3 wx => ∃ mb sb, s3 = .pointer (some ⟨sb, 0, none⟩) ∧ Has wx sb #[.slice ga gn gc, .map (some mb)] ∧ Has wx w.heap.size #[.slice ga gn gc, .slice vb C.length cc] ∧ Has wx (w.heap.size + 1) #[.slice none 0 0, .map none] ∧ wx.ownsMap (H := Unit) Try.prog 55 (plainElem Try.prog 3) mb 0 (.map []) ∧ Below w.heap.size w wx ∧ w.heap.size + 2 ≤ mb ∧ w.heap.size + 2 ≤ sb ∧ mb ≠ sb ∧ mb < wx.heap.size)
  case first =>
    go_region
    all_goals (go_wp2_with fail; go_meet)
    case rel => exact ⟨W0.heap.size, W0.heap.size + 1, rfl, (Has.new _ _ _ (by simp)).drew, ((H1.alloc _).alloc _).drew, ((H2.alloc _).alloc _).drew, ((World.ownsMap_made W0 _ _ _).alloc _).drew, ((HB.alloc HB.size _).alloc (by have := HB.size; simp; omega) _).drew, by omega, by omega, by omega, by simp; omega⟩
    case rel => exact ⟨W0.heap.size + 1, W0.heap.size, rfl, ((Has.new _ _ _ rfl).alloc _).drew, ((H1.alloc _).alloc _).drew, ((H2.alloc _).alloc _).drew, (by have := World.ownsMap_made (H := Unit) (W0.alloc (.cells #[.slice ga gn gc, .map (some (W0.heap.size + 1))] 72)) Try.prog 55 (plainElem Try.prog 3); simp at this; exact this.drew), ((HB.alloc HB.size _).alloc (by have := HB.size; simp; omega) _).drew, by omega, by omega, by omega, by simp⟩
  case rest =>
    obtain ⟨mb, sb, rfl, S, B, R, hm0, hb, m1, s1, ms, ml⟩ := hcut
    clear H1 H2 HB i1 hmm wl l0 z0
    obtain ⟨_, y1, _⟩ := id B
    go_wp2
    go_loopw [17] (fun t wr => ∃ k : Nat, k ≤ C.length ∧ t = .int .i64 (k : Int) ∧ Hid (wr.ownsMap (H := Unit) Try.prog 55 (plainElem Try.prog 3) mb (2 * k) (mD C k)) ∧ Hid (Has wr sb #[.slice ga gn gc, .map (some mb)]) ∧ Hid (Has wr (w.heap.size + 1) #[.slice none 0 0, .map none]) ∧ Hid (Below w.heap.size w wr) ∧ mb < wr.heap.size) (fun t _ => C.length - (intOf t).toNat)
    case atStart => exact ⟨0, by omega, rfl, hm0, S, R, hb, ml⟩
    case round =>
      clear hm0 S B R hb y1 ml
      obtain ⟨k, hkl, rfl, hm, S, R, hb, ml⟩ := hrel
      obtain ⟨_, s2, s3⟩ := id S.out
      by_cases hlt : k < C.length
      · obtain ⟨g, o, rfl, hg, P⟩ := kC.resolve_left (by intro e; rw [e] at hlt; simp at hlt)
        have p0 := (hb.out.cell (p := ⟨g, _, none⟩) hg).trans (P k hlt 0 _ rfl)
        have p1 := (hb.out.cell (p := ⟨g, _, none⟩) hg).trans (P k hlt 1 _ rfl)
        have p2 := (hb.out.cell (p := ⟨g, _, none⟩) hg).trans (P k hlt 2 _ rfl)
        have p3 := (hb.out.cell (p := ⟨g, _, none⟩) hg).trans (P k hlt 3 _ rfl)
        simp only [Nat.add_zero] at p0
        obtain ⟨o1, o2, o3, o4⟩ := ok k hlt
        have hst := mD_step C k hlt
        have t1 : (k : Int) < (C.length : Int) := by omega
        have t0 : (0 : Int) ≤ (k : Int) := by omega
        have t2 : k + 1 ≤ C.length := hlt
        clear P kC ok
        generalize C[k].a = xa at *
        generalize C[k].b = xb at *
        generalize C[k].ab = xab at *
        generalize C[k].ba = xba at *
        have k1 := pk_some xa xb o1 o2
        have k2 := pk_some xb xa o2 o1
        have e3 : plainElem (H := Unit) Try.prog 3 (.int .i64 xab) = some (.lit (.int .i64 xab), []) := plainElem_int Try.underlying3 o3
        have e4 : plainElem (H := Unit) Try.prog 3 (.int .i64 xba) = some (.lit (.int .i64 xba), []) := plainElem_int Try.underlying3 o4
        have hbN : Below w.heap.size w (wr.alloc (.cells #[.int .i64 xa, .int .i64 xb, .int .i64 xab, .int .i64 xba] 47)) := hb.out.alloc hb.out.size _
        have SN := S.out.alloc (.cells #[.int .i64 xa, .int .i64 xb, .int .i64 xab, .int .i64 xba] 47)
        have RN := R.out.alloc (.cells #[.int .i64 xa, .int .i64 xb, .int .i64 xab, .int .i64 xba] 47)
        have CN : Has (wr.alloc (.cells #[.int .i64 xa, .int .i64 xb, .int .i64 xab, .int .i64 xba] 47)) wr.heap.size #[.int .i64 xa, .int .i64 xb, .int .i64 xab, .int .i64 xba] := Has.new _ _ _ rfl
        have hmN := hm.out.alloc (.cells #[.int .i64 xa, .int .i64 xb, .int .i64 xab, .int .i64 xba] 47)
        clear o1 o2 o3 o4
        go_wp2_with (first
          | (at_mapUpdate; refine wpList_mapUpdate_own _ rfl _ _ _ 70 rfl 55 3 lawP Try.underlying70 (plainElem Try.prog 3) mb (2 * k) (mD C k) rfl hmN (by unfold maxLen; omega) _ _ (pk xa xb) rfl rfl k1 (.lit (.int .i64 xab)) [] e3 ?_; intro w2 hm2 hg2; have O2 : Only (fun q => some mb = some q) (wr.alloc (.cells #[.int .i64 xa, .int .i64 xb, .int .i64 xab, .int .i64 xba] 47)) w2 := only_grown (Only.refl _ _) hg2 (fun q hq => .inl hq); have S2 := SN.only O2 (fun e => ms (by injection e)); have R2 := RN.only O2 (fun e => by injection e with e; omega); have C2 := CN.only O2 (fun e => by injection e with e; omega); have hb2 := bel_only hbN O2 (Nat.le_refl _) (fun q hq e => by injection e with e; omega); have z2 := O2.size; obtain ⟨_, v1, v2⟩ := id S2; obtain ⟨_, u1, u2⟩ := id C2; clear hg2 hmN)
          | (at_mapUpdate; refine wpList_mapUpdate_own _ rfl _ _ _ 70 rfl 55 3 lawP Try.underlying70 (plainElem Try.prog 3) mb (2 * k + 1) _ rfl hm2 (by unfold maxLen; omega) _ _ (pk xb xa) rfl rfl k2 (.lit (.int .i64 xba)) [] e4 ?_; intro w3 hm3 hg3; have O3 : Only (fun q => some mb = some q) w2 w3 := only_grown (Only.refl _ _) hg3 (fun q hq => .inl hq); have S3 := S2.only O3 (fun e => ms (by injection e)); have R3 := R2.only O3 (fun e => by injection e with e; omega); have hb3 := bel_only hb2 O3 (Nat.le_refl _) (fun q hq e => by injection e with e; omega); have z3 := O3.size; clear hg3))
        have hm4 : w3.ownsMap (H := Unit) Try.prog 55 (plainElem Try.prog 3) mb (2 * (k + 1)) (mD C (k + 1)) := by rw [hst]; exact hm3
        have ml3 : mb < w3.heap.size := by simp at z2; omega
        go_roundw
        case rel => exact ⟨k + 1, by omega, by go_num, hm4, S3, R3, hb3, ml3⟩
        case measure => simp [intOf]; omega
      · have t1 : ¬ (k : Int) < (C.length : Int) := by omega
        obtain rfl : k = C.length := by omega
        obtain ⟨_, r2, r3⟩ := id R.out
        go_wp2
        have K : Has ((wr.setCell ⟨w.heap.size + 1, 0, none⟩ (.slice ga gn gc)).setCell ⟨w.heap.size + 1, 1, none⟩ (.map (some mb))) (w.heap.size + 1) #[.slice ga gn gc, .map (some mb)] := by simpa using (R.out.set 0 (by simp) (.slice ga gn gc)).set 1 (by simp) (.map (some mb))
        have hmF := (hm.out.setCell (a := ⟨w.heap.size + 1, 0, none⟩) (by show mb ≠ w.heap.size + 1; omega) (.slice ga gn gc)).setCell (a := ⟨w.heap.size + 1, 1, none⟩) (by show mb ≠ w.heap.size + 1; omega) (.map (some mb))
        have hbF := (hb.out.setCell (p := ⟨w.heap.size + 1, 0, none⟩) (by simp) (.slice ga gn gc)).setCell (p := ⟨w.heap.size + 1, 1, none⟩) (by simp) (.map (some mb))
        obtain ⟨_, k1, _⟩ := id K
        exact bodyPost_ret (v := .agg #[.slice ga gn gc, .map (some mb)]) (by simp [results, Try.results33, go_sem, k1]) rfl ⟨⟨mb, rfl, hmF, by omega, by simpa [World.setCell] using ml⟩, hbF⟩
end Go.Proofs.Ytiaklfjpmmifjaa
