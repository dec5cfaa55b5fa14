import Derived.Deep.DeepMust
import Derived.Test.YtoaokpmnjppfcaaWaI
namespace Go.Proofs.Ytoaokpmnjppfcaa
open Go.RowKit
set_option linter.unusedVariables false
set_option linter.unusedSimpArgs false

/-- What stands while a tick is looked at. -/
structure FS (w wx : World) (F TB B n : Nat) (vg vc : Value) (z : Al) (fl : Nat → Lm) (ft : Nat → Tn) : Prop where
  bx : Has wx w.heap.size #[vg, vc]
  rs : Has wx (w.heap.size + 1) #[.int .i64 0, .int .i64 0, .int .i64 0, .int .i64 0]
  f : Has wx F #[.int .i64 z.k, .int .i64 z.t, .int .i64 z.a, .int .i64 z.b]
  tb : Has wx TB (rwA Tn.cs 64 ft)
  lb : Has wx B (rwA Lm.cs n fl)
  o : Only (fun q => q = B) w wx
theorem FS.below {w wx wy : World} {F TB B n : Nat} {vg vc : Value} {z : Al} {fl : Nat → Lm} {ft : Nat → Tn} (h : FS w wx F TB B n vg vc z fl ft) (hb : Below wx.heap.size wx wy) : FS w wy F TB B n vg vc z fl ft :=
  ⟨h.bx.below hb, h.rs.below hb, h.f.below hb, h.tb.below hb, h.lb.below hb, h.o.below hb⟩
/-- Behind a look: the first alarm alone has turned. -/
theorem FS.looked {w wx wy : World} {F TB B n : Nat} {vg vc : Value} {z y : Al} {fl : Nat → Lm} {ft : Nat → Tn} (h : FS w wx F TB B n vg vc z fl ft) (hB : B < w.heap.size) (hF : w.heap.size + 2 ≤ F) (hT : F < TB) (hf : Has wy F #[.int .i64 y.k, .int .i64 y.t, .int .i64 y.a, .int .i64 y.b]) (ho : Only (fun q => q = F) wx wy) : FS w wy F TB B n vg vc y fl ft :=
  ⟨h.bx.only ho (by omega), h.rs.only ho (by omega), hf, h.tb.only ho (by omega), h.lb.only ho (by omega), ⟨ho.os.trans h.o.os, ho.tape.trans h.o.tape, ho.output.trans h.o.output, Nat.le_trans h.o.size ho.size, fun k hk hn => (ho.block k (Nat.lt_of_lt_of_le hk h.o.size) (by omega)).trans (h.o.block k hk hn)⟩⟩
/-- Behind a lamp's step. -/
theorem FS.shown {w wx wy : World} {F TB B n : Nat} {vg vc : Value} {z : Al} {fl gl : Nat → Lm} {ft : Nat → Tn} (h : FS w wx F TB B n vg vc z fl ft) (hB : B < w.heap.size) (hF : w.heap.size + 2 ≤ F) (hT : F < TB) (hl : Has wy B (rwA Lm.cs n gl)) (ho : Only (fun q => q = B) wx wy) : FS w wy F TB B n vg vc z gl ft :=
  ⟨h.bx.only ho (by omega), h.rs.only ho (by omega), h.f.only ho (by omega), h.tb.only ho (by omega), hl, h.o.trans ho⟩
/-- Behind the store of its way. -/
theorem FS.stored {w wx : World} {F TB B n k : Nat} {vg vc : Value} {z : Al} {fl : Nat → Lm} {ft : Nat → Tn} (h : FS w wx F TB B n vg vc z fl ft) (hB : B < w.heap.size) (hF : w.heap.size + 2 ≤ F) (hT : F < TB) (hk : k < 64) (t : Tn) : FS w (((((((wx.setCell ⟨TB, k * 7, none⟩ (.int .i64 t.t)).setCell ⟨TB, k * 7 + 1, none⟩ (.int .u8 t.was.ch)).setCell ⟨TB, k * 7 + 2, none⟩ (.int .i64 t.was.lo)).setCell ⟨TB, k * 7 + 3, none⟩ (.int .i64 t.was.fr)).setCell ⟨TB, k * 7 + 4, none⟩ (.int .u8 t.now.ch)).setCell ⟨TB, k * 7 + 5, none⟩ (.int .i64 t.now.lo)).setCell ⟨TB, k * 7 + 6, none⟩ (.int .i64 t.now.fr)) F TB B n vg vc z fl (updA ft k t) :=
  ⟨h.bx.far7' (by omega) _ _ _ _ _ _ _, h.rs.far7' (by omega) _ _ _ _ _ _ _, h.f.far7' (by omega) _ _ _ _ _ _ _, by rw [← turns_upd 64 ft hk t]; exact h.tb.set7 (by rw [rwA_size tn_len]; omega) t, h.lb.far7' (by omega) _ _ _ _ _ _ _, h.o.new7 (by omega) _ _ _ _ _ _ _⟩
theorem FS.drew {w wx : World} {F TB B n : Nat} {vg vc : Value} {z : Al} {fl : Nat → Lm} {ft : Nat → Tn} (h : FS w wx F TB B n vg vc z fl ft) : FS w wx.drew F TB B n vg vc z fl ft := ⟨h.bx, h.rs, h.f, h.tb, h.lb, h.o.drew⟩
theorem tn_at {ft : Nat → Tn} {k : Nat} (hk : k < 64) {j : Nat} {v : Value} (hj : j < 7) (h : (ft k).cs[j]? = some v) : (rwA Tn.cs 64 ft)[k * 7 + j]? = some v := by
  rw [rwA_get tn_len 64 ft hk hj]; exact h
theorem lm_at {fl : Nat → Lm} {n k : Nat} (hk : k < n) {j : Nat} {v : Value} (hj : j < 3) (h : (fl k).cs[j]? = some v) : (rwA Lm.cs n fl)[k * 3 + j]? = some v := by
  rw [rwA_get lm_len n fl hk hj]; exact h
/-- What the numbers must be. -/
structure FOk (R : List Gr) (C : List Cf) (f : Nat → Lm) (t : Int) : Prop where
  n64 : R.length ≤ 64
  m40 : C.length ≤ 4398046511000
  gr : ∀ (i : Nat) (h : i < R.length), (0 ≤ R[i].am ∧ R[i].am ≤ 3600) ∧ (0 ≤ R[i].le ∧ R[i].le ≤ 3600)
  cf : ∀ (i : Nat) (h : i < C.length), (0 ≤ C[i].a ∧ C[i].a < R.length) ∧ (0 ≤ C[i].b ∧ C[i].b < R.length)
  lm : ∀ i, (0 ≤ (f i).lo ∧ (f i).lo ≤ 4611686018427387904) ∧ (0 ≤ (f i).fr ∧ (f i).fr ≤ 4611686018427387904)
  tk : 0 ≤ t ∧ t ≤ 4611686018427387904

theorem msF_size {n : Nat} {t : Int} {s : ByteArray} (h : (msF n t s).k = 0) : s.size = n := by
  unfold msF at h
  by_cases e : s.size = n
  · exact e
  · rw [if_neg e] at h; cases h
set_option maxRecDepth 100000 in
set_option maxHeartbeats 4000000 in
theorem first_any (R : List Gr) (C : List Cf) (f : Nat → Lm) (B : Nat) (vg vc : Value) (t : Int) (s : ByteArray) (w : World) (ok : FOk R C f t) (hR : FlX 4 Gr.cs B w vg R) (hC : FlX 4 Cf.cs B w vc C) (hL : Has w B (rwA Lm.cs R.length f)) :
    Calls Try.prog 27 #[.agg #[vg, vc], .int .i64 t, .string s, .slice (some ⟨B, 0, none⟩) R.length R.length] w fun e w' => e = .returned (.agg #[.int .i64 (frF R C f t s).k, .int .i64 (frF R C f t s).t, .int .i64 (frF R C f t s).a, .int .i64 (frF R C f t s).b]) ∧ Has w' B (rwA Lm.cs R.length (lmF R f t s)) ∧ Only (fun q => q = B) w w' := by
  obtain ⟨ag, cg, rfl, kR⟩ := id hR
  obtain ⟨ac, qc, rfl, kC⟩ := id hC
  have hmf : ∀ (fn : Fn) (first cap : Array Value) (w : World), (Instr.makeFunc fn first cap).run Try.prog w = .ok (.func fn first cap) w := fun _ _ _ _ => rfl
  have h33 := fun W => misformed_any R.length ag cg (.slice ac C.length qc) t s W ok.n64 ⟨_, _, _, rfl⟩
  have eF : frF R C f t s = if (msF R.length t s).k = 0 then prN C f t s (lkN R f t s (msF R.length t s) R.length) C.length else msF R.length t s := rfl
  have eL : lmF R f t s = if (msF R.length t s).k = 0 then lmN f t s R.length else f := rfl
  have hB := hL.1
  have hs0 : (msF R.length t s).k = 0 → s.size = R.length := msF_size
  obtain ⟨n, hn⟩ : ∃ n, R.length = n := ⟨_, rfl⟩
  obtain ⟨m, hm⟩ : ∃ m, C.length = m := ⟨_, rfl⟩
  have hn' : Hid (R.length = n) := hn
  have hm' : Hid (C.length = m) := hm
  have n64 : n ≤ 64 := hn ▸ ok.n64
  have m40 : m ≤ 4398046511000 := hm ▸ ok.m40
  rw [hn] at h33 eF eL hL hs0 ⊢
  rw [hm] at h33 eF ⊢
  clear hn hm
  generalize msF n t s = M at *
  have h25 := fun W => isAlarm_any M.k M.t M.a M.b W
  have hS0 : Has ((w.alloc (.cells #[.slice ag n cg, .slice ac m qc] 57)).alloc (.cells #[.int .i64 0, .int .i64 0, .int .i64 0, .int .i64 0] 43)) w.heap.size #[.slice ag n cg, .slice ac m qc] ∧ Has ((w.alloc (.cells #[.slice ag n cg, .slice ac m qc] 57)).alloc (.cells #[.int .i64 0, .int .i64 0, .int .i64 0, .int .i64 0] 43)) (w.heap.size + 1) #[.int .i64 0, .int .i64 0, .int .i64 0, .int .i64 0] ∧ Has ((w.alloc (.cells #[.slice ag n cg, .slice ac m qc] 57)).alloc (.cells #[.int .i64 0, .int .i64 0, .int .i64 0, .int .i64 0] 43)) B (rwA Lm.cs n f) ∧ Only (fun q => q = B) w ((w.alloc (.cells #[.slice ag n cg, .slice ac m qc] 57)).alloc (.cells #[.int .i64 0, .int .i64 0, .int .i64 0, .int .i64 0] 43)) := ⟨(Has.new _ _ _ rfl).alloc _, Has.new _ _ _ (by simp), (hL.alloc _).alloc _, ((Only.refl _ _).alloc _).alloc _⟩
  have hz0 : ((w.alloc (.cells #[.slice ag n cg, .slice ac m qc] 57)).alloc (.cells #[.int .i64 0, .int .i64 0, .int .i64 0, .int .i64 0] 43)).heap.size = w.heap.size + 2 := by simp
  by_cases hk : M.k = 0
  · rw [eF, eL, if_pos hk, if_pos hk]
    have hd : decide (M.k = 0) = true := by simp [hk]
    have hs : Hid (s.size = n) := hs0 hk
    clear hs0
    rw [hd] at h25
    generalize hZ : prN C f t s (lkN R f t s M n) m = Z
    have hZ' : Hid (prN C f t s (lkN R f t s M n) m = Z) := hZ
    clear hZ eF eL hk hd
    go_enter Try.func27, Try.ntmps27
    go_upto_region 1 with fail
    generalize ((w.alloc (.cells #[.slice ag n cg, .slice ac m qc] 57)).alloc (.cells #[.int .i64 0, .int .i64 0, .int .i64 0, .int .i64 0] 43)) = V at *
    obtain ⟨H1, H2, H3, H4⟩ := hS0
    have hzV : w.heap.size + 2 ≤ V.heap.size := by omega
    clear hz0 hL
    obtain ⟨_, i1, _⟩ := id H1
    go_upto_region 6 with (first
      | (go_at_call 33; (with_reducible refine Calls.mono (h33 _) ?_); rintro e w1 ⟨rfl, hb⟩; replace H1 := H1.below hb; replace H2 := H2.below hb; replace H3 := H3.below hb; replace H4 := H4.below hb; have hz1 := Nat.le_trans hzV hb.size; clear hb i1)
      | (go_at_call 25; (with_reducible refine Calls.mono (h25 _) ?_); rintro e w2 ⟨rfl, hb⟩)
      | (guard_target =~ wpList _ _ _ ({ dst := _, op := Op.alloc 86, type := _, pos := _, after := _, guard := _ } :: _) _ _; go_must (refine wpList_alloc_named rfl 86 rfl zer86 alloc86 ?_)))
    have K1 : Has (w1.alloc (.cells #[.int .i64 M.k, .int .i64 M.t, .int .i64 M.a, .int .i64 M.b] 43)) w1.heap.size #[.int .i64 M.k, .int .i64 M.t, .int .i64 M.a, .int .i64 M.b] := Has.new _ _ _ rfl
    have K2 : FS w (w2.alloc (.cells zer86 86)) w1.heap.size w2.heap.size B n (.slice ag n cg) (.slice ac m qc) M f (fun _ => tn0) := ⟨((H1.alloc _).below hb).alloc _, ((H2.alloc _).below hb).alloc _, (K1.below hb).alloc _, Has.new _ _ _ rfl, ((H3.alloc _).below hb).alloc _, ((H4.alloc _).below hb).alloc _⟩
    have hT : w1.heap.size < w2.heap.size := by have := hb.size; simp at this; omega
    clear K1 H1 H2 H3 H4 hb h25 h33
    generalize hFF : w1.heap.size = F at *
    generalize hTT : w2.heap.size = TB at *
    clear hFF
    generalize (w2.alloc (.cells zer86 86)) = w3 at *
    clear hTT
    obtain ⟨_, i1, _⟩ := id K2.bx
    have eL0 : lmN f t s 0 = f := by funext j; simp [lmN]
    have eT0 : tnN f t s 0 = fun _ => tn0 := by funext j; simp [tnN]
    have hF2 : w.heap.size + 2 ≤ F := hz1
    (try simp only [Act.put, List.setIfInBounds_toArray, List.set_cons_zero, List.set_cons_succ])
    go_wp2
    go_loopg [27] n (fun gk v wr => ∃ k : Nat, k + gk = n ∧ v = .int .i64 (k : Int) ∧ Hid (FS w wr F TB B n (.slice ag n cg) (.slice ac m qc) (lkN R f t s M k) (lmN f t s k) (tnN f t s k)))
    case atStart => exact ⟨0, by omega, rfl, by rw [eL0, eT0]; exact K2⟩
    case round =>
      clear K2 eL0 eT0 i1
      obtain ⟨k, hk, rfl, hS⟩ := hrel
      cases gk with
      | zero =>
        obtain rfl : k = n := by omega
        obtain ⟨_, i1, _⟩ := id hS.out.bx
        have hS1 := hS
        clear hS kR
        go_wp2
        go_loopg [52] m (fun gk v wr => ∃ k' : Nat, k' + gk = m ∧ v = .int .i64 (k' : Int) ∧ Hid (FS w wr F TB B k (.slice ag k cg) (.slice ac m qc) (prN C f t s (lkN R f t s M k) k') (lmN f t s k) (tnN f t s k)))
        case atStart => exact ⟨0, by omega, rfl, hS1⟩
        case round =>
        clear hS1 i1
        rename_i wr0
        obtain ⟨k', hk', rfl, hS⟩ := hrel
        cases gk with
        | zero =>
          obtain rfl : k' = m := by omega
          rw [hZ'.out] at hS
          obtain ⟨_, i1, f1⟩ := id hS.out.rs
          obtain ⟨_, i2, _⟩ := id hS.out.f
          have hS2 := hS.out
          clear hS
          go_wp2
          exact bodyPost_ret (v := .agg #[.int .i64 Z.k, .int .i64 Z.t, .int .i64 Z.a, .int .i64 Z.b]) (by simp [results, Try.results27, go_sem, i1]) rfl ⟨rfl, far4 hS2.lb (by omega), (((hS2.o.set_new (by omega) _).set_new (by omega) _).set_new (by omega) _).set_new (by omega) _⟩
        | succ g =>
        have hkm : k' < m := by omega
        have hkC : k' < C.length := by have := hm'.out; omega
        obtain ⟨g0, o0, rfl, hg, hgB, P⟩ := kC.resolve_left (by intro e; rw [e] at hkC; simp at hkC)
        have p0 := (hS.out.o.cell hg hgB).trans (P k' hkC 0 _ rfl)
        have p1 := (hS.out.o.cell hg hgB).trans (P k' hkC 1 _ rfl)
        have p2 := (hS.out.o.cell hg hgB).trans (P k' hkC 2 _ rfl)
        have p3 := (hS.out.o.cell hg hgB).trans (P k' hkC 3 _ rfl)
        simp only [Nat.add_zero] at p0
        have okc := ok.cf k' hkC
        rw [hn'.out] at okc
        have eCk : C.getD k' cf0 = C[k'] := by rw [List.getD_eq_getElem?_getD, List.getElem?_eq_getElem hkC]; rfl
        generalize hc : C[k'] = c at *
        obtain ⟨ka, hka⟩ : ∃ ka : Nat, c.a = (ka : Int) := ⟨c.a.toNat, by omega⟩
        obtain ⟨kb, hkb⟩ : ∃ kb : Nat, c.b = (kb : Int) := ⟨c.b.toNat, by omega⟩
        have ka64 : ka < 64 := by omega
        have kb64 : kb < 64 := by omega
        have ka64i : (ka : Int) < 64 := by omega
        have kb64i : (kb : Int) < 64 := by omega
        have kak : ka < k := by omega
        have kbk : kb < k := by omega
        have S1 := (hS.out.below (belN1 (o1 := .cells #[.int .i64 c.a, .int .i64 c.b, .int .i64 c.ab, .int .i64 c.ba] 68))).drew
        have HG : Has (wr.alloc (.cells #[.int .i64 c.a, .int .i64 c.b, .int .i64 c.ab, .int .i64 c.ba] 68)) wr.heap.size #[.int .i64 c.a, .int .i64 c.b, .int .i64 c.ab, .int .i64 c.ba] := Has.new _ _ _ rfl
        have hTr : TB < wr.heap.size := hS.out.tb.1
        have zA : ∀ (j : Nat) (v : Value), j < 7 → ((tnF f t s ka).cs)[j]? = some v → (rwA Tn.cs 64 (tnN f t s k))[ka * 7 + j]? = some v := fun j v hj h => tn_at ka64 hj (by rw [show tnN f t s k ka = tnF f t s ka by simp [tnN, kak]]; exact h)
        have zB : ∀ (j : Nat) (v : Value), j < 7 → ((tnF f t s kb).cs)[j]? = some v → (rwA Tn.cs 64 (tnN f t s k))[kb * 7 + j]? = some v := fun j v hj h => tn_at kb64 hj (by rw [show tnN f t s k kb = tnF f t s kb by simp [tnN, kbk]]; exact h)
        have b1 : -9223372036854775808 ≤ (tnF f t s kb).t - (tnF f t s ka).was.fr ∧ (tnF f t s kb).t - (tnF f t s ka).was.fr ≤ 9223372036854775807 := by
          show _ ≤ t - (f ka).fr ∧ t - (f ka).fr ≤ _
          have := (ok.lm ka).2; have := ok.tk; omega
        have b2 : -9223372036854775808 ≤ (tnF f t s ka).t - (tnF f t s kb).was.fr ∧ (tnF f t s ka).t - (tnF f t s kb).was.fr ≤ 9223372036854775807 := by
          show _ ≤ t - (f kb).fr ∧ t - (f kb).fr ≤ _
          have := (ok.lm kb).2; have := ok.tk; omega
        have epr : prN C f t s (lkN R f t s M k) (k' + 1) = prF (prN C f t s (lkN R f t s M k) k') c (tnF f t s ka) (tnF f t s kb) := by
          show prF _ (C.getD k' cf0) _ _ = _
          rw [eCk, hka, hkb]; rfl
        generalize tnF f t s ka = TA at *
        generalize tnF f t s kb = TQ at *
        have h38 := pair_any (prN C f t s (lkN R f t s M k) k') c TA TQ F (wr.alloc (.cells #[.int .i64 c.a, .int .i64 c.b, .int .i64 c.ab, .int .i64 c.ba] 68)).drew S1.f b1 b2
        rw [← epr] at h38
        rw [hka] at p0
        rw [hkb] at p1
        rw [hka, hkb] at h38 S1 HG
        have okc' : Hid (c.a = (ka : Int) ∧ c.b = (kb : Int)) := ⟨hka, hkb⟩
        generalize c.ab = cab at *
        generalize c.ba = cba at *
        clear hS P b1 b2 epr eCk okc hka hkb hc okc'
        go_upto_region 15 with fail
        generalize (wr.alloc (.cells #[.int .i64 (ka : Nat), .int .i64 (kb : Nat), .int .i64 cab, .int .i64 cba] 68)) = V at *
        refine wp_region_noPanic ?_
        refine wp_region_held_drew (S := fun w' => (w'.cell? ⟨wr.heap.size, 0, none⟩ = some (.int .i64 (ka : Nat)) ∧ w'.cell? ⟨wr.heap.size, 1, none⟩ = some (.int .i64 (kb : Nat)) ∧ w'.cell? ⟨wr.heap.size, 2, none⟩ = some (.int .i64 cab) ∧ w'.cell? ⟨wr.heap.size, 3, none⟩ = some (.int .i64 cba)) ∧ (w'.cell? ⟨TB, ka * 7, none⟩ = some (.int .i64 TA.t) ∧ w'.cell? ⟨TB, ka * 7 + 1, none⟩ = some (.int .u8 TA.was.ch) ∧ w'.cell? ⟨TB, ka * 7 + 2, none⟩ = some (.int .i64 TA.was.lo) ∧ w'.cell? ⟨TB, ka * 7 + 3, none⟩ = some (.int .i64 TA.was.fr) ∧ w'.cell? ⟨TB, ka * 7 + 4, none⟩ = some (.int .u8 TA.now.ch) ∧ w'.cell? ⟨TB, ka * 7 + 5, none⟩ = some (.int .i64 TA.now.lo) ∧ w'.cell? ⟨TB, ka * 7 + 6, none⟩ = some (.int .i64 TA.now.fr)) ∧ w'.cell? ⟨TB, kb * 7, none⟩ = some (.int .i64 TQ.t) ∧ w'.cell? ⟨TB, kb * 7 + 1, none⟩ = some (.int .u8 TQ.was.ch) ∧ w'.cell? ⟨TB, kb * 7 + 2, none⟩ = some (.int .i64 TQ.was.lo) ∧ w'.cell? ⟨TB, kb * 7 + 3, none⟩ = some (.int .i64 TQ.was.fr) ∧ w'.cell? ⟨TB, kb * 7 + 4, none⟩ = some (.int .u8 TQ.now.ch) ∧ w'.cell? ⟨TB, kb * 7 + 5, none⟩ = some (.int .i64 TQ.now.lo) ∧ w'.cell? ⟨TB, kb * 7 + 6, none⟩ = some (.int .i64 TQ.now.fr)) (by kernel_rfl) ?_ (fun hHeld => ?_)
        · (try dsimp only)
          exact ⟨⟨HG.reads rfl, HG.reads rfl, HG.reads rfl, HG.reads rfl⟩, ⟨S1.tb.reads (zA 0 _ (by decide) rfl), S1.tb.reads (zA 1 _ (by decide) rfl), S1.tb.reads (zA 2 _ (by decide) rfl), S1.tb.reads (zA 3 _ (by decide) rfl), S1.tb.reads (zA 4 _ (by decide) rfl), S1.tb.reads (zA 5 _ (by decide) rfl), S1.tb.reads (zA 6 _ (by decide) rfl)⟩, S1.tb.reads (zB 0 _ (by decide) rfl), S1.tb.reads (zB 1 _ (by decide) rfl), S1.tb.reads (zB 2 _ (by decide) rfl), S1.tb.reads (zB 3 _ (by decide) rfl), S1.tb.reads (zB 4 _ (by decide) rfl), S1.tb.reads (zB 5 _ (by decide) rfl), S1.tb.reads (zB 6 _ (by decide) rfl)⟩
        refine wpAnyH_take (i := 0) (oi := { dst := some 56, op := Op.load 68 (Operand.tmp 15), type := 68, pos := "rule.go:63", after := #[], guard := none }) (v := ?_) rfl (by kernel_rfl) (by kernel_rfl) (by kernel_rfl) (fun _ _ _ h => h) (Or.inl ⟨by rfl, ?_⟩) (by assumption) ?_
        rotate_left
        · intro wz hSz; (try dsimp only at hSz); go_simp; all_goals (with_reducible rfl)
        (try simp only [Act.put, List.setIfInBounds_toArray, List.set_cons_zero, List.set_cons_succ])
        refine wpAnyH_take (i := 1) (oi := { dst := some 57, op := Op.fieldAddr 68 (Operand.tmp 15) 0, type := 0, pos := "rule.go:63", after := #[], guard := none }) (v := ?_) rfl (by kernel_rfl) (by kernel_rfl) (by kernel_rfl) (fun _ _ _ h => h) (Or.inl ⟨by rfl, ?_⟩) (by assumption) ?_
        rotate_left
        · intro wz hSz; (try dsimp only at hSz); go_simp; all_goals (with_reducible rfl)
        (try simp only [Act.put, List.setIfInBounds_toArray, List.set_cons_zero, List.set_cons_succ])
        refine wpAnyH_take (i := 2) (oi := { dst := some 58, op := Op.load 3 (Operand.tmp 57), type := 3, pos := "rule.go:63", after := #[{ on := 1, ground := Ground.data }], guard := none }) (v := ?_) rfl (by kernel_rfl) (by kernel_rfl) (by kernel_rfl) (fun _ _ _ h => h) (Or.inl ⟨by rfl, ?_⟩) (by assumption) ?_
        rotate_left
        · intro wz hSz; (try dsimp only at hSz); go_simp; all_goals (with_reducible rfl)
        (try simp only [Act.put, List.setIfInBounds_toArray, List.set_cons_zero, List.set_cons_succ])
        refine wpAnyH_take (i := 3) (oi := { dst := some 59, op := Op.indexAddr 86 (Operand.tmp 11) (Operand.tmp 58), type := 0, pos := "rule.go:63", after := #[{ on := 2, ground := Ground.data }], guard := none }) (v := ?_) rfl (by kernel_rfl) (by kernel_rfl) (by kernel_rfl) (fun _ _ _ h => h) (Or.inl ⟨by rfl, ?_⟩) (by assumption) ?_
        rotate_left
        · intro wz hSz; (try dsimp only at hSz); go_simp; all_goals (with_reducible rfl)
        (try simp only [Act.put, List.setIfInBounds_toArray, List.set_cons_zero, List.set_cons_succ])
        refine wpAnyH_take (i := 4) (oi := { dst := some 60, op := Op.load 85 (Operand.tmp 59), type := 85, pos := "rule.go:63", after := #[{ on := 3, ground := Ground.data }], guard := none }) (v := ?_) rfl (by kernel_rfl) (by kernel_rfl) (by kernel_rfl) (fun _ _ _ h => h) (Or.inl ⟨by rfl, ?_⟩) (by assumption) ?_
        rotate_left
        · intro wz hSz; (try dsimp only at hSz); go_simp; all_goals (with_reducible rfl)
        (try simp only [Act.put, List.setIfInBounds_toArray, List.set_cons_zero, List.set_cons_succ])
        refine wpAnyH_take (i := 5) (oi := { dst := some 61, op := Op.fieldAddr 68 (Operand.tmp 15) 1, type := 0, pos := "rule.go:63", after := #[], guard := none }) (v := ?_) rfl (by kernel_rfl) (by kernel_rfl) (by kernel_rfl) (fun _ _ _ h => h) (Or.inl ⟨by rfl, ?_⟩) (by assumption) ?_
        rotate_left
        · intro wz hSz; (try dsimp only at hSz); go_simp; all_goals (with_reducible rfl)
        (try simp only [Act.put, List.setIfInBounds_toArray, List.set_cons_zero, List.set_cons_succ])
        refine wpAnyH_take (i := 6) (oi := { dst := some 62, op := Op.load 3 (Operand.tmp 61), type := 3, pos := "rule.go:63", after := #[{ on := 5, ground := Ground.data }], guard := none }) (v := ?_) rfl (by kernel_rfl) (by kernel_rfl) (by kernel_rfl) (fun _ _ _ h => h) (Or.inl ⟨by rfl, ?_⟩) (by assumption) ?_
        rotate_left
        · intro wz hSz; (try dsimp only at hSz); go_simp; all_goals (with_reducible rfl)
        (try simp only [Act.put, List.setIfInBounds_toArray, List.set_cons_zero, List.set_cons_succ])
        refine wpAnyH_take (i := 7) (oi := { dst := some 63, op := Op.indexAddr 86 (Operand.tmp 11) (Operand.tmp 62), type := 0, pos := "rule.go:63", after := #[{ on := 6, ground := Ground.data }], guard := none }) (v := ?_) rfl (by kernel_rfl) (by kernel_rfl) (by kernel_rfl) (fun _ _ _ h => h) (Or.inl ⟨by rfl, ?_⟩) (by assumption) ?_
        rotate_left
        · intro wz hSz; (try dsimp only at hSz); go_simp; all_goals (with_reducible rfl)
        (try simp only [Act.put, List.setIfInBounds_toArray, List.set_cons_zero, List.set_cons_succ])
        refine wpAnyH_take (i := 8) (oi := { dst := some 64, op := Op.load 85 (Operand.tmp 63), type := 85, pos := "rule.go:63", after := #[{ on := 7, ground := Ground.data }], guard := none }) (v := ?_) rfl (by kernel_rfl) (by kernel_rfl) (by kernel_rfl) (fun _ _ _ h => h) (Or.inl ⟨by rfl, ?_⟩) (by assumption) ?_
        rotate_left
        · intro wz hSz; (try dsimp only at hSz); go_simp; all_goals (with_reducible rfl)
        (try simp only [Act.put, List.setIfInBounds_toArray, List.set_cons_zero, List.set_cons_succ])
        refine wpAnyH_take (i := 9) (oi := { dst := some 65, op := Op.move (Operand.tmp 10), type := 81, pos := "rule.go:63", after := #[], guard := none }) (v := ?_) rfl (by kernel_rfl) (by kernel_rfl) (by kernel_rfl) (fun _ _ _ h => h) (Or.inl ⟨by rfl, ?_⟩) (by assumption) ?_
        rotate_left
        · intro wz hSz; (try dsimp only at hSz); go_simp; all_goals (with_reducible rfl)
        (try simp only [Act.put, List.setIfInBounds_toArray, List.set_cons_zero, List.set_cons_succ])
        refine wpAnyH_ready (rs := [10]) (by kernel_rfl) (by simp) ?_
        refine AllReadyH.cons (o := { dst := some 66, op := Op.call { callee := Callee.value (Operand.func 38), args := #[Operand.tmp 56, Operand.tmp 60, Operand.tmp 64, Operand.tmp 65], argTypes := #[68, 85, 85, 81] }, type := 0, pos := "rule.go:63", after := #[{ on := 0, ground := Ground.data }, { on := 4, ground := Ground.data }, { on := 8, ground := Ground.data }, { on := 9, ground := Ground.data }], guard := none }) rfl (fun K hK => ?_) AllReadyH.nil
        go_simp
        go_at_call 38
        (with_reducible refine Calls.mono h38 ?_)
        rintro e w6 ⟨rfl, q3, q4⟩
        have S4 := S1.looked hB hF2 hT q3 q4
        have G4 := HG.drew.only q4 (by omega)
        go_wp2_with fail
        refine hK.out _ _ ?_ (fun hHeld => ?_)
        · (try dsimp only)
          exact ⟨⟨G4.reads rfl, G4.reads rfl, G4.reads rfl, G4.reads rfl⟩, ⟨S4.tb.reads (zA 0 _ (by decide) rfl), S4.tb.reads (zA 1 _ (by decide) rfl), S4.tb.reads (zA 2 _ (by decide) rfl), S4.tb.reads (zA 3 _ (by decide) rfl), S4.tb.reads (zA 4 _ (by decide) rfl), S4.tb.reads (zA 5 _ (by decide) rfl), S4.tb.reads (zA 6 _ (by decide) rfl)⟩, S4.tb.reads (zB 0 _ (by decide) rfl), S4.tb.reads (zB 1 _ (by decide) rfl), S4.tb.reads (zB 2 _ (by decide) rfl), S4.tb.reads (zB 3 _ (by decide) rfl), S4.tb.reads (zB 4 _ (by decide) rfl), S4.tb.reads (zB 5 _ (by decide) rfl), S4.tb.reads (zB 6 _ (by decide) rfl)⟩
        clear hK K
        (try simp only [Act.put, List.setIfInBounds_toArray, List.set_cons_zero, List.set_cons_succ])
        refine wpAnyH_done (by kernel_rfl) ?_ _
        refine NoPanic.normal ?_
        go_wp2_with fail
        go_roundg g
        case measure => omega
        case rel => exact ⟨k' + 1, by omega, by push_cast; rfl, S4⟩
      | succ g =>
        have hkn : k < n := by omega
        have hkR : k < R.length := by have := hn'.out; omega
        have hk64 : k < 64 := by omega
        have hk64i : (k : Int) < 64 := by omega
        obtain ⟨g0, o0, rfl, hg, hgB, P⟩ := kR.resolve_left (by intro e; rw [e] at hkR; simp at hkR)
        have p0 := (hS.out.o.cell hg hgB).trans (P k hkR 0 _ rfl)
        have p1 := (hS.out.o.cell hg hgB).trans (P k hkR 1 _ rfl)
        have p2 := (hS.out.o.cell hg hgB).trans (P k hkR 2 _ rfl)
        have p3 := (hS.out.o.cell hg hgB).trans (P k hkR 3 _ rfl)
        simp only [Nat.add_zero] at p0
        have okg := ok.gr k hkR
        have eRk : R.getD k gr0 = R[k] := by rw [List.getD_eq_getElem?_getD, List.getElem?_eq_getElem hkR]; rfl
        have hTr0 : TB < wr.heap.size := hS.out.tb.1
        have S1 := (hS.out.below (belN1 (o1 := .cells #[.int .i64 R[k].n, .int .i64 R[k].mi, .int .i64 R[k].am, .int .i64 R[k].le] 78))).drew
        have HG : Has (wr.alloc (.cells #[.int .i64 R[k].n, .int .i64 R[k].mi, .int .i64 R[k].am, .int .i64 R[k].le] 78)) wr.heap.size #[.int .i64 R[k].n, .int .i64 R[k].mi, .int .i64 R[k].am, .int .i64 R[k].le] := Has.new _ _ _ rfl
        have hks : k < s.size := by have := hs.out; omega
        have hsz : (k : Int) < s.size := by omega
        have z0 : ∀ (j : Nat) (v : Value), j < 7 → (tn0.cs)[j]? = some v → (rwA Tn.cs 64 (tnN f t s k))[k * 7 + j]? = some v := fun j v hj h => tn_at hk64 hj (by rw [show tnN f t s k k = tn0 by simp [tnN]]; exact h)
        have elk : lmN f t s k k = f k := by simp [lmN]
        have h36 := show_any (f k) B (k * 3) (rwA Lm.cs n (lmN f t s k)) t (ltr s k) (wr.alloc (.cells #[.int .i64 R[k].n, .int .i64 R[k].mi, .int .i64 R[k].am, .int .i64 R[k].le] 78)).drew S1.lb (lm_at hkn (j := 0) (by decide) (by rw [elk]; rfl)) (lm_at hkn (j := 1) (by decide) (by rw [elk]; rfl)) (lm_at hkn (j := 2) (by decide) (by rw [elk]; rfl)) (ok.lm k).1 ok.tk
        rw [lamps_upd n _ hkn, lmN_step, ← ltr_get s k hks] at h36
        generalize hRk : R[k] = x at *
        clear hS P kC kR
        go_upto_region 9 with fail
        generalize (wr.alloc (.cells #[.int .i64 x.n, .int .i64 x.mi, .int .i64 x.am, .int .i64 x.le] 78)) = V at *
        refine wp_region_noPanic ?_
        refine wp_region_held_drew (S := fun w' => True) (by kernel_rfl) ?_ (fun hHeld => ?_)
        · (try dsimp only)
          (try trivial)
        refine wpAnyH_take (i := 0) (oi := { dst := some 32, op := Op.move (Operand.tmp 12), type := 3, pos := "rule.go:59", after := #[], guard := none }) (v := ?_) rfl (by kernel_rfl) (by kernel_rfl) (by kernel_rfl) (fun _ _ _ h => h) (Or.inl ⟨by rfl, ?_⟩) (by assumption) ?_
        rotate_left
        · intro wz hSz; (try dsimp only at hSz); go_simp; all_goals (with_reducible rfl)
        (try simp only [Act.put, List.setIfInBounds_toArray, List.set_cons_zero, List.set_cons_succ])
        refine wpAnyH_take (i := 1) (oi := { dst := some 33, op := Op.move (Operand.tmp 3), type := 59, pos := "rule.go:59", after := #[], guard := none }) (v := ?_) rfl (by kernel_rfl) (by kernel_rfl) (by kernel_rfl) (fun _ _ _ h => h) (Or.inl ⟨by rfl, ?_⟩) (by assumption) ?_
        rotate_left
        · intro wz hSz; (try dsimp only at hSz); go_simp; all_goals (with_reducible rfl)
        (try simp only [Act.put, List.setIfInBounds_toArray, List.set_cons_zero, List.set_cons_succ])
        refine wpAnyH_take (i := 2) (oi := { dst := some 34, op := Op.move (Operand.tmp 12), type := 3, pos := "rule.go:59", after := #[], guard := none }) (v := ?_) rfl (by kernel_rfl) (by kernel_rfl) (by kernel_rfl) (fun _ _ _ h => h) (Or.inl ⟨by rfl, ?_⟩) (by assumption) ?_
        rotate_left
        · intro wz hSz; (try dsimp only at hSz); go_simp; all_goals (with_reducible rfl)
        (try simp only [Act.put, List.setIfInBounds_toArray, List.set_cons_zero, List.set_cons_succ])
        refine wpAnyH_take (i := 3) (oi := { dst := some 35, op := Op.indexAddr 59 (Operand.tmp 33) (Operand.tmp 34), type := 0, pos := "rule.go:59", after := #[{ on := 1, ground := Ground.data }, { on := 2, ground := Ground.data }], guard := none }) (v := ?_) rfl (by kernel_rfl) (by kernel_rfl) (by kernel_rfl) (fun _ _ _ h => h) (Or.inl ⟨by rfl, ?_⟩) (by assumption) ?_
        rotate_left
        · intro wz hSz; (try dsimp only at hSz); go_simp; all_goals (with_reducible rfl)
        (try simp only [Act.put, List.setIfInBounds_toArray, List.set_cons_zero, List.set_cons_succ])
        refine wpAnyH_take (i := 4) (oi := { dst := some 36, op := Op.move (Operand.tmp 1), type := 3, pos := "rule.go:59", after := #[], guard := none }) (v := ?_) rfl (by kernel_rfl) (by kernel_rfl) (by kernel_rfl) (fun _ _ _ h => h) (Or.inl ⟨by rfl, ?_⟩) (by assumption) ?_
        rotate_left
        · intro wz hSz; (try dsimp only at hSz); go_simp; all_goals (with_reducible rfl)
        (try simp only [Act.put, List.setIfInBounds_toArray, List.set_cons_zero, List.set_cons_succ])
        refine wpAnyH_take (i := 5) (oi := { dst := some 37, op := Op.move (Operand.tmp 2), type := 9, pos := "rule.go:59", after := #[], guard := none }) (v := ?_) rfl (by kernel_rfl) (by kernel_rfl) (by kernel_rfl) (fun _ _ _ h => h) (Or.inl ⟨by rfl, ?_⟩) (by assumption) ?_
        rotate_left
        · intro wz hSz; (try dsimp only at hSz); go_simp; all_goals (with_reducible rfl)
        (try simp only [Act.put, List.setIfInBounds_toArray, List.set_cons_zero, List.set_cons_succ])
        refine wpAnyH_take (i := 6) (oi := { dst := some 38, op := Op.move (Operand.tmp 12), type := 3, pos := "rule.go:59", after := #[], guard := none }) (v := ?_) rfl (by kernel_rfl) (by kernel_rfl) (by kernel_rfl) (fun _ _ _ h => h) (Or.inl ⟨by rfl, ?_⟩) (by assumption) ?_
        rotate_left
        · intro wz hSz; (try dsimp only at hSz); go_simp; all_goals (with_reducible rfl)
        (try simp only [Act.put, List.setIfInBounds_toArray, List.set_cons_zero, List.set_cons_succ])
        refine wpAnyH_take (i := 7) (oi := { dst := some 39, op := Op.index 9 (Operand.tmp 37) (Operand.tmp 38), type := 5, pos := "rule.go:59", after := #[{ on := 5, ground := Ground.data }, { on := 6, ground := Ground.data }], guard := none }) (v := ?_) rfl (by kernel_rfl) (by kernel_rfl) (by kernel_rfl) (fun _ _ _ h => h) (Or.inl ⟨by rfl, ?_⟩) (by assumption) ?_
        rotate_left
        · intro wz hSz; (try dsimp only at hSz); go_simp; all_goals (with_reducible rfl)
        (try simp only [Act.put, List.setIfInBounds_toArray, List.set_cons_zero, List.set_cons_succ])
        refine wpAnyH_ready (rs := [8]) (by kernel_rfl) (by simp) ?_
        refine AllReadyH.cons (o := { dst := some 40, op := Op.call { callee := Callee.value (Operand.func 36), args := #[Operand.tmp 35, Operand.tmp 36, Operand.tmp 39], argTypes := #[83, 3, 5] }, type := 85, pos := "rule.go:59", after := #[{ on := 3, ground := Ground.data }, { on := 4, ground := Ground.data }, { on := 7, ground := Ground.data }], guard := none }) rfl (fun K hK => ?_) AllReadyH.nil
        go_simp
        go_at_call 36
        (with_reducible refine Calls.mono h36 ?_)
        rintro e w5 ⟨rfl, q1, q2⟩
        have S2 := S1.shown hB hF2 hT q1 q2
        have c0 := S2.tb.reads (z0 0 _ (by decide) rfl)
        have c1 := S2.tb.reads (z0 1 _ (by decide) rfl)
        have c2 := S2.tb.reads (z0 2 _ (by decide) rfl)
        have c3 := S2.tb.reads (z0 3 _ (by decide) rfl)
        have c4 := S2.tb.reads (z0 4 _ (by decide) rfl)
        have c5 := S2.tb.reads (z0 5 _ (by decide) rfl)
        have c6 := S2.tb.reads (z0 6 _ (by decide) rfl)
        have fz := S2.tb.2.2
        simp only [Nat.add_zero] at c0
        go_wp2_with fail
        refine hK.out _ _ ?_ (fun hHeld => ?_)
        · (try dsimp only)
          (try trivial)
        clear hK K
        (try simp only [Act.put, List.setIfInBounds_toArray, List.set_cons_zero, List.set_cons_succ])
        refine wpAnyH_take (i := 9) (oi := { dst := some 41, op := Op.indexAddr 86 (Operand.tmp 11) (Operand.tmp 32), type := 0, pos := "rule.go:59", after := #[{ on := 0, ground := Ground.data }, { on := 0, ground := Ground.phase }, { on := 1, ground := Ground.phase }, { on := 2, ground := Ground.phase }, { on := 3, ground := Ground.phase }, { on := 4, ground := Ground.phase }, { on := 5, ground := Ground.phase }, { on := 6, ground := Ground.phase }, { on := 7, ground := Ground.phase }, { on := 8, ground := Ground.phase }], guard := none }) (v := ?_) rfl (by kernel_rfl) (by kernel_rfl) (by kernel_rfl) (fun _ _ _ h => h) (Or.inl ⟨by rfl, ?_⟩) (by assumption) ?_
        rotate_left
        · intro wz hSz; (try dsimp only at hSz); go_simp; all_goals (with_reducible rfl)
        (try simp only [Act.put, List.setIfInBounds_toArray, List.set_cons_zero, List.set_cons_succ])
        refine wpAnyH_ready (rs := [10]) (by kernel_rfl) (by simp) ?_
        refine AllReadyH.cons (o := { dst := none, op := Op.store 85 (Operand.tmp 41) (Operand.tmp 40), type := 0, pos := "rule.go:59", after := #[{ on := 9, ground := Ground.data }, { on := 8, ground := Ground.data }, { on := 8, ground := Ground.chain }, { on := 0, ground := Ground.phase }, { on := 1, ground := Ground.phase }, { on := 2, ground := Ground.phase }, { on := 3, ground := Ground.phase }, { on := 4, ground := Ground.phase }, { on := 5, ground := Ground.phase }, { on := 6, ground := Ground.phase }, { on := 7, ground := Ground.phase }, { on := 8, ground := Ground.phase }], guard := none }) rfl (fun K hK => ?_) AllReadyH.nil
        go_simp
        refine hK.out _ _ ?_ (fun hHeld => ?_)
        · (try dsimp only)
          (try trivial)
        clear hK K
        (try simp only [Act.put, List.setIfInBounds_toArray, List.set_cons_zero, List.set_cons_succ])
        refine wpAnyH_done (by kernel_rfl) ?_ _
        refine NoPanic.normal ?_
        go_upto_region 10 with fail
        have hTr : TB < wr.heap.size := hTr0
        have S3 := S2.stored (k := k) hB hF2 hT hk64 ⟨t, f k, shF (f k) t ((s[k]'hks).toNat : Int)⟩
        have G3 : Has (((((((w5.setCell ⟨TB, k * 7, none⟩ (.int .i64 t)).setCell ⟨TB, k * 7 + 1, none⟩ (.int .u8 (f k).ch)).setCell ⟨TB, k * 7 + 2, none⟩ (.int .i64 (f k).lo)).setCell ⟨TB, k * 7 + 3, none⟩ (.int .i64 (f k).fr)).setCell ⟨TB, k * 7 + 4, none⟩ (.int .u8 (shF (f k) t ((s[k]'hks).toNat : Int)).ch)).setCell ⟨TB, k * 7 + 5, none⟩ (.int .i64 (shF (f k) t ((s[k]'hks).toNat : Int)).lo)).setCell ⟨TB, k * 7 + 6, none⟩ (.int .i64 (shF (f k) t ((s[k]'hks).toNat : Int)).fr)) wr.heap.size #[.int .i64 x.n, .int .i64 x.mi, .int .i64 x.am, .int .i64 x.le] := (HG.drew.only q2 (by omega)).far7' (by omega) _ _ _ _ _ _ _
        dsimp only at S3
        clear c0 c1 c2 c3 c4 c5 c6 fz S2 q1 q2 S1 HG h36 z0 p0 p1 p2 p3
        generalize (((((((w5.setCell ⟨TB, k * 7, none⟩ (.int .i64 t)).setCell ⟨TB, k * 7 + 1, none⟩ (.int .u8 (f k).ch)).setCell ⟨TB, k * 7 + 2, none⟩ (.int .i64 (f k).lo)).setCell ⟨TB, k * 7 + 3, none⟩ (.int .i64 (f k).fr)).setCell ⟨TB, k * 7 + 4, none⟩ (.int .u8 (shF (f k) t ((s[k]'hks).toNat : Int)).ch)).setCell ⟨TB, k * 7 + 5, none⟩ (.int .i64 (shF (f k) t ((s[k]'hks).toNat : Int)).lo)).setCell ⟨TB, k * 7 + 6, none⟩ (.int .i64 (shF (f k) t ((s[k]'hks).toNat : Int)).fr)) = V10 at *
        rw [show (⟨t, f k, shF (f k) t ((s[k]'hks).toNat : Int)⟩ : Tn) = tnF f t s k by unfold tnF; rw [ltr_get s k hks], tnN_step] at S3
        have zT : ∀ (j : Nat) (v : Value), j < 7 → ((tnF f t s k).cs)[j]? = some v → (rwA Tn.cs 64 (tnN f t s (k + 1)))[k * 7 + j]? = some v := fun j v hj h => tn_at hk64 hj (by rw [show tnN f t s (k + 1) k = tnF f t s k by simp [tnN]]; exact h)
        have eTt : (tnF f t s k).t = t := rfl
        have elk2 : lkN R f t s M (k + 1) = lkF (lkN R f t s M k) x (tnF f t s k) := by rw [← eRk]; rfl
        generalize tnF f t s k = TT at *
        have d0 := S3.tb.reads (zT 0 _ (by decide) rfl)
        have d1 := S3.tb.reads (zT 1 _ (by decide) rfl)
        have d2 := S3.tb.reads (zT 2 _ (by decide) rfl)
        have d3 := S3.tb.reads (zT 3 _ (by decide) rfl)
        have d4 := S3.tb.reads (zT 4 _ (by decide) rfl)
        have d5 := S3.tb.reads (zT 5 _ (by decide) rfl)
        have d6 := S3.tb.reads (zT 6 _ (by decide) rfl)
        simp only [Nat.add_zero] at d0
        have h37 := look_any (lkN R f t s M k) x.n x.mi x.am x.le TT.t TT.was.ch TT.was.lo TT.was.fr TT.now.ch TT.now.lo TT.now.fr F V10.drew S3.f.drew (by rw [eTt]; exact ok.tk.1) okg.1 okg.2
        have elk3 : lkF (lkN R f t s M k) ⟨x.n, x.mi, x.am, x.le⟩ ⟨TT.t, ⟨TT.was.ch, TT.was.lo, TT.was.fr⟩, ⟨TT.now.ch, TT.now.lo, TT.now.fr⟩⟩ = lkN R f t s M (k + 1) := elk2.symm
        rw [elk3] at h37
        have eTt' : Hid (TT.t = t) := eTt
        clear elk2 elk3 eTt eTt'
        refine wp_region_noPanic ?_
        refine wp_region_held_drew (S := fun w' => (w'.cell? ⟨wr.heap.size, 0, none⟩ = some (.int .i64 x.n) ∧ w'.cell? ⟨wr.heap.size, 1, none⟩ = some (.int .i64 x.mi) ∧ w'.cell? ⟨wr.heap.size, 2, none⟩ = some (.int .i64 x.am) ∧ w'.cell? ⟨wr.heap.size, 3, none⟩ = some (.int .i64 x.le)) ∧ w'.cell? ⟨TB, k * 7, none⟩ = some (.int .i64 TT.t) ∧ w'.cell? ⟨TB, k * 7 + 1, none⟩ = some (.int .u8 TT.was.ch) ∧ w'.cell? ⟨TB, k * 7 + 2, none⟩ = some (.int .i64 TT.was.lo) ∧ w'.cell? ⟨TB, k * 7 + 3, none⟩ = some (.int .i64 TT.was.fr) ∧ w'.cell? ⟨TB, k * 7 + 4, none⟩ = some (.int .u8 TT.now.ch) ∧ w'.cell? ⟨TB, k * 7 + 5, none⟩ = some (.int .i64 TT.now.lo) ∧ w'.cell? ⟨TB, k * 7 + 6, none⟩ = some (.int .i64 TT.now.fr)) (by kernel_rfl) ?_ (fun hHeld => ?_)
        · (try dsimp only)
          exact ⟨⟨G3.reads rfl, G3.reads rfl, G3.reads rfl, G3.reads rfl⟩, d0, d1, d2, d3, d4, d5, d6⟩
        refine wpAnyH_take (i := 0) (oi := { dst := some 42, op := Op.load 78 (Operand.tmp 13), type := 78, pos := "rule.go:60", after := #[], guard := none }) (v := ?_) rfl (by kernel_rfl) (by kernel_rfl) (by kernel_rfl) (fun _ _ _ h => h) (Or.inl ⟨by rfl, ?_⟩) (by assumption) ?_
        rotate_left
        · intro wz hSz; (try dsimp only at hSz); go_simp; all_goals (with_reducible rfl)
        (try simp only [Act.put, List.setIfInBounds_toArray, List.set_cons_zero, List.set_cons_succ])
        refine wpAnyH_take (i := 1) (oi := { dst := some 43, op := Op.move (Operand.tmp 12), type := 3, pos := "rule.go:60", after := #[], guard := none }) (v := ?_) rfl (by kernel_rfl) (by kernel_rfl) (by kernel_rfl) (fun _ _ _ h => h) (Or.inl ⟨by rfl, ?_⟩) (by assumption) ?_
        rotate_left
        · intro wz hSz; (try dsimp only at hSz); go_simp; all_goals (with_reducible rfl)
        (try simp only [Act.put, List.setIfInBounds_toArray, List.set_cons_zero, List.set_cons_succ])
        refine wpAnyH_take (i := 2) (oi := { dst := some 44, op := Op.indexAddr 86 (Operand.tmp 11) (Operand.tmp 43), type := 0, pos := "rule.go:60", after := #[{ on := 1, ground := Ground.data }], guard := none }) (v := ?_) rfl (by kernel_rfl) (by kernel_rfl) (by kernel_rfl) (fun _ _ _ h => h) (Or.inl ⟨by rfl, ?_⟩) (by assumption) ?_
        rotate_left
        · intro wz hSz; (try dsimp only at hSz); go_simp; all_goals (with_reducible rfl)
        (try simp only [Act.put, List.setIfInBounds_toArray, List.set_cons_zero, List.set_cons_succ])
        refine wpAnyH_take (i := 3) (oi := { dst := some 45, op := Op.load 85 (Operand.tmp 44), type := 85, pos := "rule.go:60", after := #[{ on := 2, ground := Ground.data }], guard := none }) (v := ?_) rfl (by kernel_rfl) (by kernel_rfl) (by kernel_rfl) (fun _ _ _ h => h) (Or.inl ⟨by rfl, ?_⟩) (by assumption) ?_
        rotate_left
        · intro wz hSz; (try dsimp only at hSz); go_simp; all_goals (with_reducible rfl)
        (try simp only [Act.put, List.setIfInBounds_toArray, List.set_cons_zero, List.set_cons_succ])
        refine wpAnyH_take (i := 4) (oi := { dst := some 46, op := Op.move (Operand.tmp 10), type := 81, pos := "rule.go:60", after := #[], guard := none }) (v := ?_) rfl (by kernel_rfl) (by kernel_rfl) (by kernel_rfl) (fun _ _ _ h => h) (Or.inl ⟨by rfl, ?_⟩) (by assumption) ?_
        rotate_left
        · intro wz hSz; (try dsimp only at hSz); go_simp; all_goals (with_reducible rfl)
        (try simp only [Act.put, List.setIfInBounds_toArray, List.set_cons_zero, List.set_cons_succ])
        refine wpAnyH_ready (rs := [5]) (by kernel_rfl) (by simp) ?_
        refine AllReadyH.cons (o := { dst := some 47, op := Op.call { callee := Callee.value (Operand.func 37), args := #[Operand.tmp 42, Operand.tmp 45, Operand.tmp 46], argTypes := #[78, 85, 81] }, type := 0, pos := "rule.go:60", after := #[{ on := 0, ground := Ground.data }, { on := 3, ground := Ground.data }, { on := 4, ground := Ground.data }], guard := none }) rfl (fun K hK => ?_) AllReadyH.nil
        go_simp
        go_at_call 37
        (with_reducible refine Calls.mono h37 ?_)
        rintro e w6 ⟨rfl, q3, q4⟩
        have S4 := S3.drew.looked hB hF2 hT q3 q4
        have G4 := G3.drew.only q4 (by omega)
        go_wp2_with fail
        refine hK.out _ _ ?_ (fun hHeld => ?_)
        · (try dsimp only)
          exact ⟨⟨G4.reads rfl, G4.reads rfl, G4.reads rfl, G4.reads rfl⟩, S4.tb.reads (zT 0 _ (by decide) rfl), S4.tb.reads (zT 1 _ (by decide) rfl), S4.tb.reads (zT 2 _ (by decide) rfl), S4.tb.reads (zT 3 _ (by decide) rfl), S4.tb.reads (zT 4 _ (by decide) rfl), S4.tb.reads (zT 5 _ (by decide) rfl), S4.tb.reads (zT 6 _ (by decide) rfl)⟩
        clear hK K
        (try simp only [Act.put, List.setIfInBounds_toArray, List.set_cons_zero, List.set_cons_succ])
        refine wpAnyH_done (by kernel_rfl) ?_ _
        refine NoPanic.normal ?_
        go_wp2_with fail
        go_roundg g
        case measure => omega
        case rel => exact ⟨k + 1, by omega, by push_cast; rfl, S4⟩
  · rw [eF, eL, if_neg hk, if_neg hk]
    have hd : decide (M.k = 0) = false := by simp [hk]
    clear hs0
    rw [hd] at h25
    clear eF eL hk hd
    go_enter Try.func27, Try.ntmps27
    go_upto_region 1 with fail
    generalize ((w.alloc (.cells #[.slice ag n cg, .slice ac m qc] 57)).alloc (.cells #[.int .i64 0, .int .i64 0, .int .i64 0, .int .i64 0] 43)) = V at *
    obtain ⟨H1, H2, H3, H4⟩ := hS0
    have hzV : w.heap.size + 2 ≤ V.heap.size := by omega
    clear hz0 hL
    obtain ⟨_, i1, _⟩ := id H1
    go_wp2_with (first
      | (go_at_call 33; (with_reducible refine Calls.mono (h33 _) ?_); rintro e w1 ⟨rfl, hb⟩; replace H1 := H1.below hb; replace H2 := H2.below hb; replace H3 := H3.below hb; replace H4 := H4.below hb; have hz1 := Nat.le_trans hzV hb.size; clear hb i1; have K1 : Has (w1.alloc (.cells #[.int .i64 M.k, .int .i64 M.t, .int .i64 M.a, .int .i64 M.b] 43)) w1.heap.size #[.int .i64 M.k, .int .i64 M.t, .int .i64 M.a, .int .i64 M.b] := Has.new _ _ _ rfl)
      | (go_at_call 25; (with_reducible refine Calls.mono (h25 _) ?_); rintro e w2 ⟨rfl, hb⟩; replace K1 := K1.below hb; replace H2 := (H2.alloc _).below hb; replace H3 := (H3.alloc _).below hb; replace H4 := (H4.alloc _).below hb; obtain ⟨_, i1, _⟩ := id K1; obtain ⟨_, i2, f2⟩ := id H2))
    exact bodyPost_ret (v := .agg #[.int .i64 M.k, .int .i64 M.t, .int .i64 M.a, .int .i64 M.b]) (by simp [results, Try.results27, go_sem, i2]) rfl ⟨rfl, far4 H3 (by omega), (((H4.set_new (by omega) _).set_new (by omega) _).set_new (by omega) _).set_new (by omega) _⟩
end Go.Proofs.Ytoaokpmnjppfcaa
