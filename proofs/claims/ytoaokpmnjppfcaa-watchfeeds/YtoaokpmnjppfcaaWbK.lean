import Derived.Deep.DeepCutAuto
import Derived.Test.YtoaokpmnjppfcaaWbJ
namespace Go.Proofs.Ytoaokpmnjppfcaa
open Go.RowKit
set_option linter.unusedVariables false
set_option linter.unusedSimpArgs false

theorem cells64 (f : Nat → Int) (n : Nat) : cellsF n64 ((List.range n).map f) = (List.range n).map (fun i => Value.int .i64 (f i)) := by
  unfold cellsF
  induction List.range n with
  | nil => rfl
  | cons x l ih => simp only [List.map_cons, List.flatMap_cons, ih]; rfl
theorem cz_at (n : Nat) (f : Nat → Int) {k : Nat} (hk : k < n) : (cellsF n64 ((List.range n).map f))[k]? = some (.int .i64 (f k)) := by
  rw [cells64, List.getElem?_map, List.getElem?_range hk]; rfl
theorem set64 (n : Nat) (f : Nat → Int) {k : Nat} (hk : k < n) (v : Int) : (cellsF n64 ((List.range n).map f)).set k (.int .i64 v) = cellsF n64 ((List.range n).map (fun j => if j = k then v else f j)) := by
  rw [cells64, cells64]
  apply List.ext_getElem?
  intro i
  rw [List.getElem?_set, List.getElem?_map]
  by_cases e : k = i
  · subst e
    simp [hk]
  · rw [if_neg e, List.getElem?_map]
    by_cases hi : i < n
    · rw [List.getElem?_range hi]; simp [Ne.symm e]
    · rw [List.getElem?_eq_none (by simp; omega)]; rfl
theorem cells_ext (n : Nat) (f g : Nat → Int) (h : ∀ k, k < n → f k = g k) : cellsF n64 ((List.range n).map f) = cellsF n64 ((List.range n).map g) := by
  rw [cells64, cells64]
  apply List.map_congr_left
  intro i hi
  rw [h i (List.mem_range.1 hi)]
theorem set_rw (n : Nat) (f : Nat → Int) {k : Nat} (hk : k < n) (v : Int) : (rwA n64 n f).setIfInBounds k (.int .i64 v) = rwA n64 n (fun j => if j = k then v else f j) := by
  unfold rwA
  rw [← set64 n f hk v]
  simp
/-- Up to k a new value, from there on an old one. -/
def uptoF (k : Nat) (p q : Nat → Int) : Nat → Int := fun j => if j < k then p j else q j
theorem upto_step (k : Nat) (p q : Nat → Int) : (fun j => if j = k then p k else uptoF k p q j) = uptoF (k + 1) p q := by
  funext j
  unfold uptoF
  by_cases e : j = k
  · subst e; simp
  · rw [if_neg e]
    by_cases h : j < k
    · rw [if_pos h, if_pos (by omega)]
    · rw [if_neg h, if_neg (by omega)]
theorem upto_at (k : Nat) (p q : Nat → Int) : uptoF k p q k = q k := by unfold uptoF; rw [if_neg (by omega)]
/-- What stands while the reference takes a text in. -/
structure FW (w wx : World) (b rb n m : Nat) (u1 : Option Addr) (u2 : Nat) (v1 y1 z1 : Option Addr) (v3 y3 z2 lL : Nat) (tk k0 t0 a0 b0 : Int) (la : ByteArray) (r1 r2 : Nat → Int) : Prop where
  ob : Has wx b #[.slice v1 n v3, .slice y1 m y3, .int .i64 tk, .string la, .slice (some ⟨rb, 0, none⟩) n n, .slice u1 n u2, .int .i64 k0, .int .i64 t0, .int .i64 a0, .int .i64 b0, .slice z1 lL z2]
  rs : Has wx w.heap.size #[.int .i64 0, .int .i64 0, .int .i64 0, .int .i64 0]
  run : Has wx rb (rwA n64 n r1)
  grn : wx.ownsRow 0 3 1 (.slice u1 n u2) n (cellsF n64 ((List.range n).map r2))
  oo : Only (fun q => q = rb ∨ (Value.slice u1 n u2).ownBlock = some q) w wx
theorem FW.drew {w wx : World} {b rb n m u2 : Nat} {u1 v1 y1 z1 : Option Addr} {v3 y3 z2 lL : Nat} {tk k0 t0 a0 b0 : Int} {la : ByteArray} {r1 r2 : Nat → Int} (h : FW w wx b rb n m u1 u2 v1 y1 z1 v3 y3 z2 lL tk k0 t0 a0 b0 la r1 r2) : FW w wx.drew b rb n m u1 u2 v1 y1 z1 v3 y3 z2 lL tk k0 t0 a0 b0 la r1 r2 := ⟨h.ob.drew, h.rs.drew, h.run.drew, own_bel h.grn (Below.refl _ _).drew, h.oo.drew⟩
theorem FW.runs {w wx : World} {b rb n m u2 : Nat} {u1 v1 y1 z1 : Option Addr} {v3 y3 z2 lL : Nat} {tk k0 t0 a0 b0 : Int} {la : ByteArray} {p q r2 : Nat → Int} {k : Nat} {v : Int} (h : FW w wx b rb n m u1 u2 v1 y1 z1 v3 y3 z2 lL tk k0 t0 a0 b0 la (uptoF k p q) r2) (hk : k < n) (hv : v = p k) (hb : b ≠ rb) (hw : w.heap.size ≠ rb) (hn : (Value.slice u1 n u2).ownBlock ≠ some rb) : FW w (wx.setCell ⟨rb, k, none⟩ (.int .i64 v)) b rb n m u1 u2 v1 y1 z1 v3 y3 z2 lL tk k0 t0 a0 b0 la (uptoF (k + 1) p q) r2 := by
  subst hv
  refine ⟨h.ob.far hb _, h.rs.far hw _, ?_, own_only2 h.grn (only_of_set wx rb k _) (fun r hr e => hn (by rw [hr, e])), h.oo.set (.inl rfl) _⟩
  have := h.run.set k (by rw [rwA_size n64_len]; omega) (.int .i64 (p k))
  rw [set_rw _ _ hk, upto_step] at this
  exact this
theorem FW.green {w wx : World} {b rb n m ng u2 : Nat} {v1 y1 z1 : Option Addr} {v3 y3 z2 lL : Nat} {tk k0 t0 a0 b0 : Int} {la : ByteArray} {r1 p q : Nat → Int} {k : Nat} {v : Int} (h : FW w wx b rb n m (some ⟨ng, 0, none⟩) u2 v1 y1 z1 v3 y3 z2 lL tk k0 t0 a0 b0 la r1 (uptoF k p q)) (hk : k < n) (hv : v = p k) (hn : rb ≠ ng) (hb : b ≠ ng ∧ w.heap.size ≠ ng) : FW w (wx.setCell ⟨ng, k, none⟩ (.int .i64 v)) b rb n m (some ⟨ng, 0, none⟩) u2 v1 y1 z1 v3 y3 z2 lL tk k0 t0 a0 b0 la r1 (uptoF (k + 1) p q) := by
  subst hv
  refine ⟨h.ob.far hb.1 _, h.rs.far hb.2 _, h.run.far hn _, ?_, h.oo.set (.inr rfl) _⟩
  have := own_stored [.int .i64 (p k)] wx _ k h.grn
  rw [show setAll (cellsF n64 ((List.range n).map (uptoF k p q))) k [.int .i64 (p k)] = (cellsF n64 ((List.range n).map (uptoF k p q))).set k (.int .i64 (p k)) from rfl, set64 _ _ hk, upto_step] at this
  exact this
theorem FW.same {w wx : World} {b rb n m u2 : Nat} {u1 v1 y1 z1 : Option Addr} {v3 y3 z2 lL : Nat} {tk k0 t0 a0 b0 : Int} {la : ByteArray} {r1 p q : Nat → Int} {k : Nat} (h : FW w wx b rb n m u1 u2 v1 y1 z1 v3 y3 z2 lL tk k0 t0 a0 b0 la r1 (uptoF k p q)) (hv : p k = q k) : FW w wx b rb n m u1 u2 v1 y1 z1 v3 y3 z2 lL tk k0 t0 a0 b0 la r1 (uptoF (k + 1) p q) := by
  have e : uptoF (k + 1) p q = uptoF k p q := by
    rw [← upto_step]
    funext j
    by_cases h : j = k
    · subst h; rw [if_pos rfl, upto_at]; exact hv
    · rw [if_neg h]
  rw [e]; exact h
set_option maxRecDepth 100000 in
set_option maxHeartbeats 4000000 in
theorem feedR_good {w : World} {b rb : Nat} {vg vc vn vt : Value} {G : List Gp} {C : List Cf} {tk : Int} {la : ByteArray} {ru gn : Nat → Int} {tr : Al} {L : List Al} {f : Nat → Lm} (h : Rm w b rb vg vc vn vt G C tk la ru gn tr L) (s : ByteArray) (hg : gridB G C = true) (hr : Rel G.length f tk la ru gn) (lC : C.length ≤ 4398046511000) (hb1 : ∀ k, (0 ≤ (f k).lo ∧ (f k).lo ≤ 4611686018427387904) ∧ (f k).fr ≤ 4611686018427387904) (htk : tk ≤ 4611686018427387904) (hk : tr.k = 0) (hx : (ffF G C f tk s).k = 0) : Calls Try.prog 21 #[.pointer (some ⟨b, 0, none⟩), .string s] w fun e w' => e = .returned (.agg #[.int .i64 al0.k, .int .i64 al0.t, .int .i64 al0.a, .int .i64 al0.b]) ∧ Rm w' b rb vg vc vn vt G C (tk + 1) s (runF f tk s) (grnF f tk s) tr L ∧ Only (Dyn b rb vn vt) w w' := by
  have hd : (tr.k != 0) = false := by simp [hk]
  have hwr : wrF G.length s = -2 := by
    by_cases e : wrF G.length s = -2
    · exact e
    · unfold ffF at hx; rw [if_neg e] at hx; cases hx
  obtain ⟨hsz, hlet⟩ := wr_ok hwr
  obtain ⟨x, ex⟩ : ∃ x, ffF G C f tk s = x := ⟨_, rfl⟩
  rw [ex] at hx
  have hdx : (x.k != 0) = false := by simp [hx]
  have h32 : ∀ W : World, Below w.heap.size w W → Calls Try.prog 32 #[.pointer (some ⟨b, 0, none⟩), .string s] W fun e w' => e = .returned (.agg #[.int .i64 x.k, .int .i64 x.t, .int .i64 x.a, .int .i64 x.b]) ∧ Below W.heap.size W w' := fun W hW => by rw [← ex]; exact firstR_any (h.below hW) s hg hr lC hb1 htk
  have hn64 := grid_len hg
  have hM : Hid (Rm w b rb vg vc vn vt G C tk la ru gn tr L) := h
  obtain ⟨⟨v1, v3, e1⟩, ⟨y1, y3, e2⟩, ⟨u1, u2, e3⟩, z1, z2, e4⟩ := h.vs
  subst e1 e2 e3 e4
  have hw1 : IntKind.i64.wrap (tk + 1) = tk + 1 := wrap64 _ (by have := hr.t0; omega)
  have F0 : FW w (w.alloc (.cells #[.int .i64 0, .int .i64 0, .int .i64 0, .int .i64 0] 43)) b rb G.length C.length u1 u2 v1 y1 z1 v3 y3 z2 L.length tk tr.k tr.t tr.a tr.b la (uptoF 0 (runF f tk s) ru) (uptoF 0 (grnF f tk s) gn) := ⟨h.ob.alloc _, Has.new _ _ _ rfl, h.run.alloc _, own_bel h.grn belN1, (Only.refl _ _).alloc _⟩
  have XB : Below w.heap.size w (w.alloc (.cells #[.int .i64 0, .int .i64 0, .int .i64 0, .int .i64 0] 43)) := belN1
  have hbw := h.ob.1
  have hrw := h.run.1
  have nb : b ≠ rb := h.d1
  have hwr' : w.heap.size ≠ rb := by omega
  have hd2 := h.d2
  have hvn := fun q hq => (own_lt h.grn q hq).2
  have facts : ∀ k, k < G.length → (((0 < tk → ltr la k = (f k).ch) ∧ (tk = 0 → (f k).ch = 0)) ∧ ru k = (f k).lo ∧ gn k = (f k).fr - 1) ∧ (0 ≤ (f k).lo ∧ (f k).lo ≤ 4611686018427387904) := fun k hk => ⟨⟨⟨fun ht => ((hr.p ht).2 k hk).1, fun ht => hr.z ht k hk⟩, hr.ru k hk, hr.gn k hk⟩, (hb1 k).1⟩
  have hlas : 0 < tk → la.size = G.length := fun ht => (hr.p ht).1
  have ht0 := hr.t0
  obtain ⟨k0, t0, a0, b0⟩ := tr
  dsimp only at *
  obtain ⟨n, hn⟩ : ∃ n, G.length = n := ⟨_, rfl⟩
  obtain ⟨m, hmm⟩ : ∃ m, C.length = m := ⟨_, rfl⟩
  obtain ⟨lL, hll⟩ : ∃ m, L.length = m := ⟨_, rfl⟩
  have hn' : Hid (G.length = n) := hn
  have hm' : Hid (C.length = m) := hmm
  have hl' : Hid (L.length = lL) := hll
  rw [hn, hmm, hll] at F0
  rw [hn] at facts hlas hsz hlet hn64 hd2 hvn
  clear h hk hx hn hmm hll ex hr hb1 htk hg lC hwr
  go_enter Try.func21, Try.ntmps21
  go_upto_region 1 with fail
  generalize (w.alloc (.cells #[.int .i64 0, .int .i64 0, .int .i64 0, .int .i64 0] 43)) = V0 at *
  obtain ⟨_, i1, _⟩ := id F0.ob
  go_upto_region 4 with (go_at_call 32; (with_reducible refine Calls.mono (h32 _ XB) ?_); rintro e V ⟨rfl, hb⟩)
  have YP : Has (V.alloc (.cells #[.int .i64 x.k, .int .i64 x.t, .int .i64 x.a, .int .i64 x.b] 43)) V.heap.size #[.int .i64 x.k, .int .i64 x.t, .int .i64 x.a, .int .i64 x.b] := Has.new _ _ _ rfl
  have hb2 := hb.alloc hb.size (.cells #[.int .i64 x.k, .int .i64 x.t, .int .i64 x.a, .int .i64 x.b] 43)
  have F1 : FW w (V.alloc (.cells #[.int .i64 x.k, .int .i64 x.t, .int .i64 x.a, .int .i64 x.b] 43)) b rb n m u1 u2 v1 y1 z1 v3 y3 z2 lL tk k0 t0 a0 b0 la (uptoF 0 (runF f tk s) ru) (uptoF 0 (grnF f tk s) gn) := ⟨F0.ob.below hb2, F0.rs.below hb2, F0.run.below hb2, own_bel F0.grn hb2, F0.oo.below hb2⟩
  clear F0 XB hb hb2 i1 h32
  generalize V.heap.size = pp at *
  generalize (V.alloc (.cells #[.int .i64 x.k, .int .i64 x.t, .int .i64 x.a, .int .i64 x.b] 43)) = w1 at *
  obtain ⟨_, i1, _⟩ := id YP
  obtain ⟨_, i2, f2⟩ := id F1.ob
  go_wp2
  go_loopg [6] n (fun gk v wr => ∃ k : Nat, k + gk = n ∧ v = .int .i64 (k : Int) ∧ Hid (FW w wr b rb n m u1 u2 v1 y1 z1 v3 y3 z2 lL tk k0 t0 a0 b0 la (uptoF k (runF f tk s) ru) (uptoF k (grnF f tk s) gn)))
  case atStart => exact ⟨0, by omega, rfl, F1⟩
  case round =>
    clear F1 i1 i2 f2 YP
    obtain ⟨k, hkk, rfl, hS⟩ := hrel
    have hob := hS.out.ob
    obtain ⟨_, i2, f2⟩ := id hob
    cases gk with
    | zero =>
      obtain rfl : k = n := by omega
      obtain ⟨_, i3, f3⟩ := id hS.out.rs
      have hwb : w.heap.size ≠ b := by omega
      go_wp2
      have hm := hM.out
      have c11 := (hob.e3 (.string s)).e2 (.int .i64 (tk + 1))
      have ZO : Only (fun q => q = b ∨ q = rb ∨ (Value.slice u1 k u2).ownBlock = some q) w ((((((wr.setCell ⟨b, 3, none⟩ (.string s)).setCell ⟨b, 2, none⟩ (.int .i64 (tk + 1))).setCell ⟨w.heap.size, 0, none⟩ (.int .i64 0)).setCell ⟨w.heap.size, 1, none⟩ (.int .i64 0)).setCell ⟨w.heap.size, 2, none⟩ (.int .i64 0)).setCell ⟨w.heap.size, 3, none⟩ (.int .i64 0)) := ((((((hS.out.oo.mono (T := fun q => q = b ∨ q = rb ∨ (Value.slice u1 k u2).ownBlock = some q) (fun q e => .inr e)).set (.inl rfl) _).set (.inl rfl) _).set_new (Nat.le_refl _) _).set_new (Nat.le_refl _) _).set_new (Nat.le_refl _) _).set_new (Nat.le_refl _) _
      have RO : Only (fun q => q = b ∨ q = w.heap.size) wr ((((((wr.setCell ⟨b, 3, none⟩ (.string s)).setCell ⟨b, 2, none⟩ (.int .i64 (tk + 1))).setCell ⟨w.heap.size, 0, none⟩ (.int .i64 0)).setCell ⟨w.heap.size, 1, none⟩ (.int .i64 0)).setCell ⟨w.heap.size, 2, none⟩ (.int .i64 0)).setCell ⟨w.heap.size, 3, none⟩ (.int .i64 0)) := ((((((Only.refl (fun q => q = b ∨ q = w.heap.size) wr).set (.inl rfl) _).set (.inl rfl) _).set (.inr rfl) _).set (.inr rfl) _).set (.inr rfl) _).set (.inr rfl) _
      have r1 := hS.out.run.only RO (fun e => e.elim (fun e => nb e.symm) (fun e => hwr' e.symm))
      have r2 := own_only2 hS.out.grn RO (fun q hq e => e.elim (fun e => hd2.1 (by rw [← e]; exact hq)) (fun e => by have := hvn q hq; omega))
      have r3 := own_only2 hm.tol ZO (fun q hq e => e.elim (fun e => hm.d3.1 (by rw [hq, e])) (fun e => e.elim (fun e => hm.d3.2 (by rw [hq, e])) (fun e => hm.d4 q (by have := hn'.out; subst this; exact e) hq)))
      have e1 : rwA n64 k (uptoF k (runF f tk s) ru) = rwA n64 k (runF f tk s) := by unfold rwA; rw [cells_ext k _ _ (fun j hj => by unfold uptoF; rw [if_pos hj])]
      rw [e1] at r1
      rw [cells_ext k _ (grnF f tk s) (fun j hj => by unfold uptoF; rw [if_pos hj])] at r2
      have eN := hn'.out
      have eM := hm'.out
      have eL := hl'.out
      subst eN eM eL
      have ZD := ZO.mono (T := Dyn b rb (.slice u1 G.length u2) (.slice z1 L.length z2)) (fun q e => e.elim .inl (fun e => e.elim (fun e => .inr (.inl e)) (fun e => .inr (.inr (.inl e)))))
      obtain ⟨c1, -⟩ := hm.chg (vt' := .slice z1 L.length z2) (L' := L) (tr' := ⟨k0, t0, a0, b0⟩) (tk' := tk + 1) (la' := s) ZD (far4 c11 (Ne.symm hwb)) r1 r2 r3 (.inl rfl)
      exact bodyPost_ret (v := .agg #[.int .i64 0, .int .i64 0, .int .i64 0, .int .i64 0]) (by simp [results, Try.results21, go_sem, i3]) rfl ⟨rfl, c1, ZD⟩
    | succ g =>
      have hki : (k : Int) < (n : Int) := by omega
      have hkn : k < n := by omega
      have hks : k < s.size := by omega
      have hksi : (k : Int) < s.size := by omega
      have hwk : IntKind.i64.wrap ((k : Int) + 1) = (k : Int) + 1 := wrap64 _ (by omega)
      obtain ⟨⟨⟨fa, fb⟩, fc, fd⟩, fe⟩ := facts k hkn
      have hlt := ltr_get s k hks
      have eR : runF f tk s k = if ltr s k = (f k).ch then (f k).lo + 1 else 1 := rfl
      have eG : grnF f tk s k = (if ltr s k = 103 then tk + 1 else (f k).fr) - 1 := rfl
      have hletk := hlet k hkn
      clear facts hlet
      obtain ⟨ng, _, e5, -, -, -⟩ := own_block hS.out.grn (by omega)
      injection e5 with e5 _ _
      subst e5
      have hrn : rb ≠ ng := fun e => hd2.2 (by rw [e]; rfl)
      have hbn : b ≠ ng ∧ w.heap.size ≠ ng := ⟨fun e => hd2.1 (by rw [e]; rfl), fun e => by have := hvn ng rfl; omega⟩
      go_upto_region 11 with fail
      go_cut [61] (fun s61 wx => s61 = .bool (decide (ltr s k = (f k).ch)) ∧ FW w wx b rb n m (some ⟨ng, 0, none⟩) u2 v1 y1 z1 v3 y3 z2 lL tk k0 t0 a0 b0 la (uptoF k (runF f tk s) ru) (uptoF k (grnF f tk s) gn))
      case first =>
        by_cases ht : tk = 0
        · have g0 : decide (0 < tk) = false := by simp [ht]
          have d0 : Hid (decide (ltr s k = (f k).ch) = false) := by
            show _ = _
            rw [decide_eq_false_iff_not, fb ht]
            intro e
            rw [e] at hletk
            simp [letB] at hletk
          have ht' : ¬ (0 < tk) := by omega
          clear fa fb eR eG
          refine wp_region_noPanic ?_
          refine wp_region_held_drew (S := fun w' => w'.cell? ⟨b, 2, none⟩ = some (.int .i64 tk) ∧ w'.cell? ⟨b, 3, none⟩ = some (.string la)) (by kernel_rfl) ?_ (fun hHeld => ?_)
          · (try dsimp only)
            exact ⟨hS.out.ob.drew.reads rfl, hS.out.ob.drew.reads rfl⟩
          refine wpAnyH_take (i := 0) (oi := { dst := some 45, op := Op.move (Operand.tmp 0), type := 32, pos := "ref.go:352", after := #[], guard := none }) (v := ?_) rfl (by kernel_rfl) (by kernel_rfl) (by kernel_rfl) (fun _ _ _ h => h) (Or.inl ⟨by rfl, ?_⟩) (by assumption) ?_
          rotate_left
          · intro wz hSz; (try dsimp only at hSz); go_simp; all_goals (with_reducible rfl)
          (try simp only [Act.put, List.setIfInBounds_toArray, List.set_cons_zero, List.set_cons_succ])
          refine wpAnyH_take (i := 1) (oi := { dst := some 46, op := Op.nilCheck (Operand.tmp 45), type := 0, pos := "ref.go:352", after := #[{ on := 0, ground := Ground.data }], guard := none }) (v := ?_) rfl (by kernel_rfl) (by kernel_rfl) (by kernel_rfl) (fun _ _ _ h => h) (Or.inl ⟨by rfl, ?_⟩) (by assumption) ?_
          rotate_left
          · intro wz hSz; (try dsimp only at hSz); go_simp; all_goals (with_reducible rfl)
          (try simp only [Act.put, List.setIfInBounds_toArray, List.set_cons_zero, List.set_cons_succ])
          refine wpAnyH_take (i := 2) (oi := { dst := some 47, op := Op.fieldAddr 64 (Operand.tmp 46) 1, type := 0, pos := "ref.go:352", after := #[{ on := 1, ground := Ground.data }], guard := none }) (v := ?_) rfl (by kernel_rfl) (by kernel_rfl) (by kernel_rfl) (fun _ _ _ h => h) (Or.inl ⟨by rfl, ?_⟩) (by assumption) ?_
          rotate_left
          · intro wz hSz; (try dsimp only at hSz); go_simp; all_goals (with_reducible rfl)
          (try simp only [Act.put, List.setIfInBounds_toArray, List.set_cons_zero, List.set_cons_succ])
          refine wpAnyH_take (i := 3) (oi := { dst := some 48, op := Op.load 3 (Operand.tmp 47), type := 3, pos := "ref.go:352", after := #[{ on := 2, ground := Ground.data }], guard := none }) (v := ?_) rfl (by kernel_rfl) (by kernel_rfl) (by kernel_rfl) (fun _ _ _ h => h) (Or.inl ⟨by rfl, ?_⟩) (by assumption) ?_
          rotate_left
          · intro wz hSz; (try dsimp only at hSz); go_simp; all_goals (with_reducible rfl)
          (try simp only [Act.put, List.setIfInBounds_toArray, List.set_cons_zero, List.set_cons_succ])
          refine wpAnyH_take (i := 4) (oi := { dst := some 49, op := Op.binOp BinOp.gtr 3 (Operand.tmp 48) (Operand.const (Value.int IntKind.i64 0)) 3, type := 4, pos := "ref.go:352", after := #[{ on := 3, ground := Ground.data }], guard := none }) (v := ?_) rfl (by kernel_rfl) (by kernel_rfl) (by kernel_rfl) (fun _ _ _ h => h) (Or.inl ⟨by rfl, ?_⟩) (by assumption) ?_
          rotate_left
          · intro wz hSz; (try dsimp only at hSz); go_simp; all_goals (with_reducible rfl)
          (try simp only [Act.put, List.setIfInBounds_toArray, List.set_cons_zero, List.set_cons_succ])
          refine wpAnyH_take (i := 5) (oi := { dst := some 50, op := Op.move (Operand.tmp 49), type := 4, pos := "ref.go:352", after := #[{ on := 4, ground := Ground.data }], guard := none }) (v := ?_) rfl (by kernel_rfl) (by kernel_rfl) (by kernel_rfl) (fun _ _ _ h => h) (Or.inl ⟨by rfl, ?_⟩) (by assumption) ?_
          rotate_left
          · intro wz hSz; (try dsimp only at hSz); go_simp; all_goals (with_reducible rfl)
          (try simp only [Act.put, List.setIfInBounds_toArray, List.set_cons_zero, List.set_cons_succ])
          refine wpAnyH_take (i := 6) (oi := { dst := some 51, op := Op.move (Operand.tmp 0), type := 32, pos := "ref.go:352", after := #[{ on := 5, ground := Ground.guard }], guard := some (5, true) }) (v := undef) rfl (by kernel_rfl) (by kernel_rfl) (by kernel_rfl) (fun _ _ _ h => h) (Or.inr ⟨by rfl, rfl⟩) (by assumption) ?_
          (try simp only [Act.put, List.setIfInBounds_toArray, List.set_cons_zero, List.set_cons_succ])
          refine wpAnyH_take (i := 7) (oi := { dst := some 52, op := Op.nilCheck (Operand.tmp 51), type := 0, pos := "ref.go:352", after := #[{ on := 6, ground := Ground.data }, { on := 5, ground := Ground.guard }], guard := some (5, true) }) (v := undef) rfl (by kernel_rfl) (by kernel_rfl) (by kernel_rfl) (fun _ _ _ h => h) (Or.inr ⟨by rfl, rfl⟩) (by assumption) ?_
          (try simp only [Act.put, List.setIfInBounds_toArray, List.set_cons_zero, List.set_cons_succ])
          refine wpAnyH_take (i := 8) (oi := { dst := some 53, op := Op.fieldAddr 64 (Operand.tmp 52) 2, type := 0, pos := "ref.go:352", after := #[{ on := 7, ground := Ground.data }, { on := 5, ground := Ground.guard }], guard := some (5, true) }) (v := undef) rfl (by kernel_rfl) (by kernel_rfl) (by kernel_rfl) (fun _ _ _ h => h) (Or.inr ⟨by rfl, rfl⟩) (by assumption) ?_
          (try simp only [Act.put, List.setIfInBounds_toArray, List.set_cons_zero, List.set_cons_succ])
          refine wpAnyH_take (i := 9) (oi := { dst := some 54, op := Op.load 9 (Operand.tmp 53), type := 9, pos := "ref.go:352", after := #[{ on := 8, ground := Ground.data }, { on := 5, ground := Ground.guard }], guard := some (5, true) }) (v := undef) rfl (by kernel_rfl) (by kernel_rfl) (by kernel_rfl) (fun _ _ _ h => h) (Or.inr ⟨by rfl, rfl⟩) (by assumption) ?_
          (try simp only [Act.put, List.setIfInBounds_toArray, List.set_cons_zero, List.set_cons_succ])
          refine wpAnyH_take (i := 10) (oi := { dst := some 55, op := Op.move (Operand.tmp 6), type := 3, pos := "ref.go:352", after := #[{ on := 5, ground := Ground.guard }], guard := some (5, true) }) (v := undef) rfl (by kernel_rfl) (by kernel_rfl) (by kernel_rfl) (fun _ _ _ h => h) (Or.inr ⟨by rfl, rfl⟩) (by assumption) ?_
          (try simp only [Act.put, List.setIfInBounds_toArray, List.set_cons_zero, List.set_cons_succ])
          refine wpAnyH_take (i := 11) (oi := { dst := some 56, op := Op.index 9 (Operand.tmp 54) (Operand.tmp 55), type := 5, pos := "ref.go:352", after := #[{ on := 9, ground := Ground.data }, { on := 10, ground := Ground.data }, { on := 5, ground := Ground.guard }], guard := some (5, true) }) (v := undef) rfl (by kernel_rfl) (by kernel_rfl) (by kernel_rfl) (fun _ _ _ h => h) (Or.inr ⟨by rfl, rfl⟩) (by assumption) ?_
          (try simp only [Act.put, List.setIfInBounds_toArray, List.set_cons_zero, List.set_cons_succ])
          refine wpAnyH_take (i := 12) (oi := { dst := some 57, op := Op.move (Operand.tmp 1), type := 9, pos := "ref.go:352", after := #[{ on := 5, ground := Ground.guard }], guard := some (5, true) }) (v := undef) rfl (by kernel_rfl) (by kernel_rfl) (by kernel_rfl) (fun _ _ _ h => h) (Or.inr ⟨by rfl, rfl⟩) (by assumption) ?_
          (try simp only [Act.put, List.setIfInBounds_toArray, List.set_cons_zero, List.set_cons_succ])
          refine wpAnyH_take (i := 13) (oi := { dst := some 58, op := Op.move (Operand.tmp 6), type := 3, pos := "ref.go:352", after := #[{ on := 5, ground := Ground.guard }], guard := some (5, true) }) (v := undef) rfl (by kernel_rfl) (by kernel_rfl) (by kernel_rfl) (fun _ _ _ h => h) (Or.inr ⟨by rfl, rfl⟩) (by assumption) ?_
          (try simp only [Act.put, List.setIfInBounds_toArray, List.set_cons_zero, List.set_cons_succ])
          refine wpAnyH_take (i := 14) (oi := { dst := some 59, op := Op.index 9 (Operand.tmp 57) (Operand.tmp 58), type := 5, pos := "ref.go:352", after := #[{ on := 12, ground := Ground.data }, { on := 13, ground := Ground.data }, { on := 5, ground := Ground.guard }], guard := some (5, true) }) (v := undef) rfl (by kernel_rfl) (by kernel_rfl) (by kernel_rfl) (fun _ _ _ h => h) (Or.inr ⟨by rfl, rfl⟩) (by assumption) ?_
          (try simp only [Act.put, List.setIfInBounds_toArray, List.set_cons_zero, List.set_cons_succ])
          refine wpAnyH_take (i := 15) (oi := { dst := some 60, op := Op.binOp BinOp.eql 5 (Operand.tmp 56) (Operand.tmp 59) 5, type := 4, pos := "ref.go:352", after := #[{ on := 11, ground := Ground.data }, { on := 14, ground := Ground.data }, { on := 5, ground := Ground.guard }], guard := some (5, true) }) (v := undef) rfl (by kernel_rfl) (by kernel_rfl) (by kernel_rfl) (fun _ _ _ h => h) (Or.inr ⟨by rfl, rfl⟩) (by assumption) ?_
          (try simp only [Act.put, List.setIfInBounds_toArray, List.set_cons_zero, List.set_cons_succ])
          refine wpAnyH_take (i := 16) (oi := { dst := some 61, op := Op.pick (Operand.tmp 50) (Operand.tmp 60) (Operand.const (Value.bool false)), type := 4, pos := "ref.go:352", after := #[{ on := 5, ground := Ground.data }, { on := 15, ground := Ground.data }], guard := none }) (v := ?_) rfl (by kernel_rfl) (by kernel_rfl) (by kernel_rfl) (fun _ _ _ h => h) (Or.inl ⟨by rfl, ?_⟩) (by assumption) ?_
          rotate_left
          · intro wz hSz; (try dsimp only at hSz); go_simp; all_goals (with_reducible rfl)
          (try simp only [Act.put, List.setIfInBounds_toArray, List.set_cons_zero, List.set_cons_succ])
          refine wpAnyH_done (by kernel_rfl) ?_ _
          refine NoPanic.normal ?_
          go_wp2_with fail
          go_meet
          exact ⟨by rw [d0.out], hS.out.drew⟩
        · have htp : 0 < tk := by omega
          have hkl : k < la.size := by rw [hlas htp]; exact hkn
          have hkli : (k : Int) < la.size := by omega
          have hl2 := ltr_get la k hkl
          rw [fa htp] at hl2
          have hl2' : Hid (((la[k]'hkl).toNat : Int) = (f k).ch) := hl2
          have hlt' : Hid (((s[k]'hks).toNat : Int) = ltr s k) := hlt
          clear fa fb eR eG ht hl2 hlt
          refine wp_region_noPanic ?_
          refine wp_region_held_drew (S := fun w' => w'.cell? ⟨b, 2, none⟩ = some (.int .i64 tk) ∧ w'.cell? ⟨b, 3, none⟩ = some (.string la)) (by kernel_rfl) ?_ (fun hHeld => ?_)
          · (try dsimp only)
            exact ⟨hS.out.ob.drew.reads rfl, hS.out.ob.drew.reads rfl⟩
          refine wpAnyH_take (i := 0) (oi := { dst := some 45, op := Op.move (Operand.tmp 0), type := 32, pos := "ref.go:352", after := #[], guard := none }) (v := ?_) rfl (by kernel_rfl) (by kernel_rfl) (by kernel_rfl) (fun _ _ _ h => h) (Or.inl ⟨by rfl, ?_⟩) (by assumption) ?_
          rotate_left
          · intro wz hSz; (try dsimp only at hSz); go_simp; all_goals (with_reducible rfl)
          (try simp only [Act.put, List.setIfInBounds_toArray, List.set_cons_zero, List.set_cons_succ])
          refine wpAnyH_take (i := 1) (oi := { dst := some 46, op := Op.nilCheck (Operand.tmp 45), type := 0, pos := "ref.go:352", after := #[{ on := 0, ground := Ground.data }], guard := none }) (v := ?_) rfl (by kernel_rfl) (by kernel_rfl) (by kernel_rfl) (fun _ _ _ h => h) (Or.inl ⟨by rfl, ?_⟩) (by assumption) ?_
          rotate_left
          · intro wz hSz; (try dsimp only at hSz); go_simp; all_goals (with_reducible rfl)
          (try simp only [Act.put, List.setIfInBounds_toArray, List.set_cons_zero, List.set_cons_succ])
          refine wpAnyH_take (i := 2) (oi := { dst := some 47, op := Op.fieldAddr 64 (Operand.tmp 46) 1, type := 0, pos := "ref.go:352", after := #[{ on := 1, ground := Ground.data }], guard := none }) (v := ?_) rfl (by kernel_rfl) (by kernel_rfl) (by kernel_rfl) (fun _ _ _ h => h) (Or.inl ⟨by rfl, ?_⟩) (by assumption) ?_
          rotate_left
          · intro wz hSz; (try dsimp only at hSz); go_simp; all_goals (with_reducible rfl)
          (try simp only [Act.put, List.setIfInBounds_toArray, List.set_cons_zero, List.set_cons_succ])
          refine wpAnyH_take (i := 3) (oi := { dst := some 48, op := Op.load 3 (Operand.tmp 47), type := 3, pos := "ref.go:352", after := #[{ on := 2, ground := Ground.data }], guard := none }) (v := ?_) rfl (by kernel_rfl) (by kernel_rfl) (by kernel_rfl) (fun _ _ _ h => h) (Or.inl ⟨by rfl, ?_⟩) (by assumption) ?_
          rotate_left
          · intro wz hSz; (try dsimp only at hSz); go_simp; all_goals (with_reducible rfl)
          (try simp only [Act.put, List.setIfInBounds_toArray, List.set_cons_zero, List.set_cons_succ])
          refine wpAnyH_take (i := 4) (oi := { dst := some 49, op := Op.binOp BinOp.gtr 3 (Operand.tmp 48) (Operand.const (Value.int IntKind.i64 0)) 3, type := 4, pos := "ref.go:352", after := #[{ on := 3, ground := Ground.data }], guard := none }) (v := ?_) rfl (by kernel_rfl) (by kernel_rfl) (by kernel_rfl) (fun _ _ _ h => h) (Or.inl ⟨by rfl, ?_⟩) (by assumption) ?_
          rotate_left
          · intro wz hSz; (try dsimp only at hSz); go_simp; all_goals (with_reducible rfl)
          (try simp only [Act.put, List.setIfInBounds_toArray, List.set_cons_zero, List.set_cons_succ])
          refine wpAnyH_take (i := 5) (oi := { dst := some 50, op := Op.move (Operand.tmp 49), type := 4, pos := "ref.go:352", after := #[{ on := 4, ground := Ground.data }], guard := none }) (v := ?_) rfl (by kernel_rfl) (by kernel_rfl) (by kernel_rfl) (fun _ _ _ h => h) (Or.inl ⟨by rfl, ?_⟩) (by assumption) ?_
          rotate_left
          · intro wz hSz; (try dsimp only at hSz); go_simp; all_goals (with_reducible rfl)
          (try simp only [Act.put, List.setIfInBounds_toArray, List.set_cons_zero, List.set_cons_succ])
          refine wpAnyH_take (i := 6) (oi := { dst := some 51, op := Op.move (Operand.tmp 0), type := 32, pos := "ref.go:352", after := #[{ on := 5, ground := Ground.guard }], guard := some (5, true) }) (v := ?_) rfl (by kernel_rfl) (by kernel_rfl) (by kernel_rfl) (fun _ _ _ h => h) (Or.inl ⟨by rfl, ?_⟩) (by assumption) ?_
          rotate_left
          · intro wz hSz; (try dsimp only at hSz); go_simp; all_goals (with_reducible rfl)
          (try simp only [Act.put, List.setIfInBounds_toArray, List.set_cons_zero, List.set_cons_succ])
          refine wpAnyH_take (i := 7) (oi := { dst := some 52, op := Op.nilCheck (Operand.tmp 51), type := 0, pos := "ref.go:352", after := #[{ on := 6, ground := Ground.data }, { on := 5, ground := Ground.guard }], guard := some (5, true) }) (v := ?_) rfl (by kernel_rfl) (by kernel_rfl) (by kernel_rfl) (fun _ _ _ h => h) (Or.inl ⟨by rfl, ?_⟩) (by assumption) ?_
          rotate_left
          · intro wz hSz; (try dsimp only at hSz); go_simp; all_goals (with_reducible rfl)
          (try simp only [Act.put, List.setIfInBounds_toArray, List.set_cons_zero, List.set_cons_succ])
          refine wpAnyH_take (i := 8) (oi := { dst := some 53, op := Op.fieldAddr 64 (Operand.tmp 52) 2, type := 0, pos := "ref.go:352", after := #[{ on := 7, ground := Ground.data }, { on := 5, ground := Ground.guard }], guard := some (5, true) }) (v := ?_) rfl (by kernel_rfl) (by kernel_rfl) (by kernel_rfl) (fun _ _ _ h => h) (Or.inl ⟨by rfl, ?_⟩) (by assumption) ?_
          rotate_left
          · intro wz hSz; (try dsimp only at hSz); go_simp; all_goals (with_reducible rfl)
          (try simp only [Act.put, List.setIfInBounds_toArray, List.set_cons_zero, List.set_cons_succ])
          refine wpAnyH_take (i := 9) (oi := { dst := some 54, op := Op.load 9 (Operand.tmp 53), type := 9, pos := "ref.go:352", after := #[{ on := 8, ground := Ground.data }, { on := 5, ground := Ground.guard }], guard := some (5, true) }) (v := ?_) rfl (by kernel_rfl) (by kernel_rfl) (by kernel_rfl) (fun _ _ _ h => h) (Or.inl ⟨by rfl, ?_⟩) (by assumption) ?_
          rotate_left
          · intro wz hSz; (try dsimp only at hSz); go_simp; all_goals (with_reducible rfl)
          (try simp only [Act.put, List.setIfInBounds_toArray, List.set_cons_zero, List.set_cons_succ])
          refine wpAnyH_take (i := 10) (oi := { dst := some 55, op := Op.move (Operand.tmp 6), type := 3, pos := "ref.go:352", after := #[{ on := 5, ground := Ground.guard }], guard := some (5, true) }) (v := ?_) rfl (by kernel_rfl) (by kernel_rfl) (by kernel_rfl) (fun _ _ _ h => h) (Or.inl ⟨by rfl, ?_⟩) (by assumption) ?_
          rotate_left
          · intro wz hSz; (try dsimp only at hSz); go_simp; all_goals (with_reducible rfl)
          (try simp only [Act.put, List.setIfInBounds_toArray, List.set_cons_zero, List.set_cons_succ])
          refine wpAnyH_take (i := 11) (oi := { dst := some 56, op := Op.index 9 (Operand.tmp 54) (Operand.tmp 55), type := 5, pos := "ref.go:352", after := #[{ on := 9, ground := Ground.data }, { on := 10, ground := Ground.data }, { on := 5, ground := Ground.guard }], guard := some (5, true) }) (v := ?_) rfl (by kernel_rfl) (by kernel_rfl) (by kernel_rfl) (fun _ _ _ h => h) (Or.inl ⟨by rfl, ?_⟩) (by assumption) ?_
          rotate_left
          · intro wz hSz; (try dsimp only at hSz); go_simp; all_goals (with_reducible rfl)
          (try simp only [Act.put, List.setIfInBounds_toArray, List.set_cons_zero, List.set_cons_succ])
          refine wpAnyH_take (i := 12) (oi := { dst := some 57, op := Op.move (Operand.tmp 1), type := 9, pos := "ref.go:352", after := #[{ on := 5, ground := Ground.guard }], guard := some (5, true) }) (v := ?_) rfl (by kernel_rfl) (by kernel_rfl) (by kernel_rfl) (fun _ _ _ h => h) (Or.inl ⟨by rfl, ?_⟩) (by assumption) ?_
          rotate_left
          · intro wz hSz; (try dsimp only at hSz); go_simp; all_goals (with_reducible rfl)
          (try simp only [Act.put, List.setIfInBounds_toArray, List.set_cons_zero, List.set_cons_succ])
          refine wpAnyH_take (i := 13) (oi := { dst := some 58, op := Op.move (Operand.tmp 6), type := 3, pos := "ref.go:352", after := #[{ on := 5, ground := Ground.guard }], guard := some (5, true) }) (v := ?_) rfl (by kernel_rfl) (by kernel_rfl) (by kernel_rfl) (fun _ _ _ h => h) (Or.inl ⟨by rfl, ?_⟩) (by assumption) ?_
          rotate_left
          · intro wz hSz; (try dsimp only at hSz); go_simp; all_goals (with_reducible rfl)
          (try simp only [Act.put, List.setIfInBounds_toArray, List.set_cons_zero, List.set_cons_succ])
          refine wpAnyH_take (i := 14) (oi := { dst := some 59, op := Op.index 9 (Operand.tmp 57) (Operand.tmp 58), type := 5, pos := "ref.go:352", after := #[{ on := 12, ground := Ground.data }, { on := 13, ground := Ground.data }, { on := 5, ground := Ground.guard }], guard := some (5, true) }) (v := ?_) rfl (by kernel_rfl) (by kernel_rfl) (by kernel_rfl) (fun _ _ _ h => h) (Or.inl ⟨by rfl, ?_⟩) (by assumption) ?_
          rotate_left
          · intro wz hSz; (try dsimp only at hSz); go_simp; all_goals (with_reducible rfl)
          (try simp only [Act.put, List.setIfInBounds_toArray, List.set_cons_zero, List.set_cons_succ])
          refine wpAnyH_take (i := 15) (oi := { dst := some 60, op := Op.binOp BinOp.eql 5 (Operand.tmp 56) (Operand.tmp 59) 5, type := 4, pos := "ref.go:352", after := #[{ on := 11, ground := Ground.data }, { on := 14, ground := Ground.data }, { on := 5, ground := Ground.guard }], guard := some (5, true) }) (v := ?_) rfl (by kernel_rfl) (by kernel_rfl) (by kernel_rfl) (fun _ _ _ h => h) (Or.inl ⟨by rfl, ?_⟩) (by assumption) ?_
          rotate_left
          · intro wz hSz; (try dsimp only at hSz); go_simp; all_goals (with_reducible rfl)
          (try simp only [Act.put, List.setIfInBounds_toArray, List.set_cons_zero, List.set_cons_succ])
          refine wpAnyH_take (i := 16) (oi := { dst := some 61, op := Op.pick (Operand.tmp 50) (Operand.tmp 60) (Operand.const (Value.bool false)), type := 4, pos := "ref.go:352", after := #[{ on := 5, ground := Ground.data }, { on := 15, ground := Ground.data }], guard := none }) (v := ?_) rfl (by kernel_rfl) (by kernel_rfl) (by kernel_rfl) (fun _ _ _ h => h) (Or.inl ⟨by rfl, ?_⟩) (by assumption) ?_
          rotate_left
          · intro wz hSz; (try dsimp only at hSz); go_simp; all_goals (with_reducible rfl)
          (try simp only [Act.put, List.setIfInBounds_toArray, List.set_cons_zero, List.set_cons_succ])
          refine wpAnyH_done (by kernel_rfl) ?_ _
          refine NoPanic.normal ?_
          go_wp2_with fail
          go_meet
          refine ⟨congrArg Value.bool ?_, hS.out.drew⟩
          rw [hl2'.out, hlt'.out]
          rw [Bool.eq_iff_iff, beq_iff_eq, decide_eq_true_eq]
          exact eq_comm
      case rest =>
      clear hS hob i2 f2 fa fb
      obtain ⟨rfl, hS⟩ := hcut
      have rr : wc.cell? ⟨rb, k, none⟩ = some (.int .i64 (f k).lo) := by
        rw [← fc, ← upto_at k (runF f tk s) ru]
        exact hS.run.reads (by unfold rwA; rw [List.getElem?_toArray]; exact cz_at n _ hkn)
      have rf := hS.run.2.2 k
      obtain ⟨_, i2, f2⟩ := id hS.ob
      have hwl : IntKind.i64.wrap ((f k).lo + 1) = (f k).lo + 1 := wrap64 _ (by omega)
      have hd22 : (Value.slice (some ⟨ng, 0, none⟩) n u2).ownBlock ≠ some rb := fun e => by injection e with e; exact hrn e.symm
      go_upto_if 61 with fail
      go_cut [] (fun wx => FW w wx b rb n m (some ⟨ng, 0, none⟩) u2 v1 y1 z1 v3 y3 z2 lL tk k0 t0 a0 b0 la (uptoF (k + 1) (runF f tk s) ru) (uptoF k (grnF f tk s) gn))
      case first =>
        by_cases hD : ltr s k = (f k).ch
        · have ed : decide (ltr s k = (f k).ch) = true := decide_eq_true hD
          have ev : Hid ((f k).lo + 1 = runF f tk s k) := by show _ = _; rw [eR, if_pos hD]
          rw [ed]
          clear hD ed eR eG
          go_wp2
          go_meet
          exact hS.runs hkn ev.out nb hwr' hd22
        · have ed : decide (ltr s k = (f k).ch) = false := decide_eq_false hD
          have ev : Hid (1 = runF f tk s k) := by show _ = _; rw [eR, if_neg hD]
          rw [ed]
          clear hD ed eR eG
          go_wp2
          go_meet
          exact hS.runs hkn ev.out nb hwr' hd22
      case rest =>
      clear hS rr rf i2 f2 hwl fc fe eR
      have hS2 := hcut
      clear hcut
      obtain ⟨_, i2, f2⟩ := id hS2.ob
      by_cases hc : ltr s k = 103
      · have eg : Hid (tk = grnF f tk s k) := by show _ = _; rw [eG, if_pos hc]; omega
        have g3 : (((s[k]'hks).toNat : Int) == 103) = true := by rw [hlt, hc]; rfl
        clear hc eG fd hlt
        go_upto_region 15 with fail
        refine wp_region_noPanic ?_
        refine wp_region_held_drew (S := fun w' => w'.cell? ⟨b, 2, none⟩ = some (.int .i64 tk) ∧ w'.cell? ⟨b, 5, none⟩ = some (.slice (some ⟨ng, 0, none⟩) n u2)) (by kernel_rfl) ?_ (fun hHeld => ?_)
        · (try dsimp only)
          exact ⟨hS2.ob.drew.reads rfl, hS2.ob.drew.reads rfl⟩
        refine wpAnyH_take (i := 0) (oi := { dst := some 81, op := Op.move (Operand.tmp 0), type := 32, pos := "ref.go:358", after := #[], guard := none }) (v := ?_) rfl (by kernel_rfl) (by kernel_rfl) (by kernel_rfl) (fun _ _ _ h => h) (Or.inl ⟨by rfl, ?_⟩) (by assumption) ?_
        rotate_left
        · intro wz hSz; (try dsimp only at hSz); go_simp; all_goals (with_reducible rfl)
        (try simp only [Act.put, List.setIfInBounds_toArray, List.set_cons_zero, List.set_cons_succ])
        refine wpAnyH_take (i := 1) (oi := { dst := some 82, op := Op.nilCheck (Operand.tmp 81), type := 0, pos := "ref.go:358", after := #[{ on := 0, ground := Ground.data }], guard := none }) (v := ?_) rfl (by kernel_rfl) (by kernel_rfl) (by kernel_rfl) (fun _ _ _ h => h) (Or.inl ⟨by rfl, ?_⟩) (by assumption) ?_
        rotate_left
        · intro wz hSz; (try dsimp only at hSz); go_simp; all_goals (with_reducible rfl)
        (try simp only [Act.put, List.setIfInBounds_toArray, List.set_cons_zero, List.set_cons_succ])
        refine wpAnyH_take (i := 2) (oi := { dst := some 83, op := Op.fieldAddr 64 (Operand.tmp 82) 4, type := 0, pos := "ref.go:358", after := #[{ on := 1, ground := Ground.data }], guard := none }) (v := ?_) rfl (by kernel_rfl) (by kernel_rfl) (by kernel_rfl) (fun _ _ _ h => h) (Or.inl ⟨by rfl, ?_⟩) (by assumption) ?_
        rotate_left
        · intro wz hSz; (try dsimp only at hSz); go_simp; all_goals (with_reducible rfl)
        (try simp only [Act.put, List.setIfInBounds_toArray, List.set_cons_zero, List.set_cons_succ])
        refine wpAnyH_take (i := 3) (oi := { dst := some 84, op := Op.load 62 (Operand.tmp 83), type := 62, pos := "ref.go:358", after := #[{ on := 2, ground := Ground.data }], guard := none }) (v := ?_) rfl (by kernel_rfl) (by kernel_rfl) (by kernel_rfl) (fun _ _ _ h => h) (Or.inl ⟨by rfl, ?_⟩) (by assumption) ?_
        rotate_left
        · intro wz hSz; (try dsimp only at hSz); go_simp; all_goals (with_reducible rfl)
        (try simp only [Act.put, List.setIfInBounds_toArray, List.set_cons_zero, List.set_cons_succ])
        refine wpAnyH_take (i := 4) (oi := { dst := some 85, op := Op.move (Operand.tmp 6), type := 3, pos := "ref.go:358", after := #[], guard := none }) (v := ?_) rfl (by kernel_rfl) (by kernel_rfl) (by kernel_rfl) (fun _ _ _ h => h) (Or.inl ⟨by rfl, ?_⟩) (by assumption) ?_
        rotate_left
        · intro wz hSz; (try dsimp only at hSz); go_simp; all_goals (with_reducible rfl)
        (try simp only [Act.put, List.setIfInBounds_toArray, List.set_cons_zero, List.set_cons_succ])
        refine wpAnyH_take (i := 5) (oi := { dst := some 86, op := Op.move (Operand.tmp 0), type := 32, pos := "ref.go:358", after := #[], guard := none }) (v := ?_) rfl (by kernel_rfl) (by kernel_rfl) (by kernel_rfl) (fun _ _ _ h => h) (Or.inl ⟨by rfl, ?_⟩) (by assumption) ?_
        rotate_left
        · intro wz hSz; (try dsimp only at hSz); go_simp; all_goals (with_reducible rfl)
        (try simp only [Act.put, List.setIfInBounds_toArray, List.set_cons_zero, List.set_cons_succ])
        refine wpAnyH_take (i := 6) (oi := { dst := some 87, op := Op.nilCheck (Operand.tmp 86), type := 0, pos := "ref.go:358", after := #[{ on := 5, ground := Ground.data }], guard := none }) (v := ?_) rfl (by kernel_rfl) (by kernel_rfl) (by kernel_rfl) (fun _ _ _ h => h) (Or.inl ⟨by rfl, ?_⟩) (by assumption) ?_
        rotate_left
        · intro wz hSz; (try dsimp only at hSz); go_simp; all_goals (with_reducible rfl)
        (try simp only [Act.put, List.setIfInBounds_toArray, List.set_cons_zero, List.set_cons_succ])
        refine wpAnyH_take (i := 7) (oi := { dst := some 88, op := Op.fieldAddr 64 (Operand.tmp 87) 1, type := 0, pos := "ref.go:358", after := #[{ on := 6, ground := Ground.data }], guard := none }) (v := ?_) rfl (by kernel_rfl) (by kernel_rfl) (by kernel_rfl) (fun _ _ _ h => h) (Or.inl ⟨by rfl, ?_⟩) (by assumption) ?_
        rotate_left
        · intro wz hSz; (try dsimp only at hSz); go_simp; all_goals (with_reducible rfl)
        (try simp only [Act.put, List.setIfInBounds_toArray, List.set_cons_zero, List.set_cons_succ])
        refine wpAnyH_take (i := 8) (oi := { dst := some 89, op := Op.load 3 (Operand.tmp 88), type := 3, pos := "ref.go:358", after := #[{ on := 7, ground := Ground.data }], guard := none }) (v := ?_) rfl (by kernel_rfl) (by kernel_rfl) (by kernel_rfl) (fun _ _ _ h => h) (Or.inl ⟨by rfl, ?_⟩) (by assumption) ?_
        rotate_left
        · intro wz hSz; (try dsimp only at hSz); go_simp; all_goals (with_reducible rfl)
        (try simp only [Act.put, List.setIfInBounds_toArray, List.set_cons_zero, List.set_cons_succ])
        refine wpAnyH_take (i := 9) (oi := { dst := some 90, op := Op.indexAddr 62 (Operand.tmp 84) (Operand.tmp 85), type := 0, pos := "ref.go:358", after := #[{ on := 3, ground := Ground.data }, { on := 4, ground := Ground.data }, { on := 0, ground := Ground.phase }, { on := 1, ground := Ground.phase }, { on := 2, ground := Ground.phase }, { on := 3, ground := Ground.phase }, { on := 4, ground := Ground.phase }, { on := 5, ground := Ground.phase }, { on := 6, ground := Ground.phase }, { on := 7, ground := Ground.phase }, { on := 8, ground := Ground.phase }], guard := none }) (v := ?_) rfl (by kernel_rfl) (by kernel_rfl) (by kernel_rfl) (fun _ _ _ h => h) (Or.inl ⟨by rfl, ?_⟩) (by assumption) ?_
        rotate_left
        · intro wz hSz; (try dsimp only at hSz); go_simp; all_goals (with_reducible rfl)
        (try simp only [Act.put, List.setIfInBounds_toArray, List.set_cons_zero, List.set_cons_succ])
        have hS3 := hS2.drew
        have fz := hS3.grn.frozenAt k
        have cz := own_reads hS3.grn rfl k _ (cz_at n _ hkn)
        refine wpAnyH_ready (rs := [10]) (by kernel_rfl) (by simp) ?_
        refine AllReadyH.cons (o := { dst := none, op := Op.store 3 (Operand.tmp 90) (Operand.tmp 89), type := 0, pos := "ref.go:358", after := #[{ on := 9, ground := Ground.data }, { on := 8, ground := Ground.data }, { on := 0, ground := Ground.phase }, { on := 1, ground := Ground.phase }, { on := 2, ground := Ground.phase }, { on := 3, ground := Ground.phase }, { on := 4, ground := Ground.phase }, { on := 5, ground := Ground.phase }, { on := 6, ground := Ground.phase }, { on := 7, ground := Ground.phase }, { on := 8, ground := Ground.phase }], guard := none }) rfl (fun K hK => ?_) (AllReadyH.nil)
        go_simp
        have hS4 := hS3.green hkn eg.out hrn hbn
        refine hK.out _ _ ?_ (fun hHeld => ?_)
        · (try dsimp only)
          exact ⟨hS4.ob.reads rfl, hS4.ob.reads rfl⟩
        clear hK K
        (try simp only [Act.put, List.setIfInBounds_toArray, List.set_cons_zero, List.set_cons_succ])
        refine wpAnyH_done (by kernel_rfl) ?_ _
        refine NoPanic.normal ?_
        go_wp2_with fail
        go_roundg g
        case measure => omega
        case rel => exact ⟨k + 1, by omega, by push_cast; rfl, hS4⟩
      · have eg : Hid (grnF f tk s k = gn k) := by show _ = _; rw [eG, if_neg hc, fd]
        have g3 : (((s[k]'hks).toNat : Int) == 103) = false := by rw [hlt]; exact beq_eq_false_iff_ne.2 hc
        clear hc eG fd hlt
        go_wp2
        go_roundg g
        case measure => omega
        case rel => exact ⟨k + 1, by omega, by push_cast; rfl, hS2.same eg.out⟩
end Go.Proofs.Ytoaokpmnjppfcaa
