import Derived.Test.YtahheagfgfpdmaaWmN
import Derived.Test.YtahheagfgfpdmaaWmH
import Derived.Test.YtahheagfgfpdmaaWmK
import Derived.Test.YtahheagfgfpdmaaWmL
namespace Go.Proofs.Ytahheagfgfpdmaa
open Go.RowKit
set_option linter.unusedVariables false
set_option linter.unusedSimpArgs false

theorem pkL_le (k s n u : Int) (D : List Int) : (pkL k s n u D).length ≤ 256 := by
  unfold pkL
  split
  · rename_i h
    have := (fm_spec h).2.2
    simp [w4]
    omega
  · simp
theorem uD_le (L : List Int) : (uD L).length ≤ 246 := by
  unfold uD
  split
  · rename_i h
    unfold uOk at h
    rw [Bool.and_eq_true] at h
    have := (fm_spec h.2).2.2
    rw [List.length_drop]
    exact this
  · simp
theorem By.iv {S : Nat → Prop} {X : World} {v : Value} {L : List Int} {lo hi : Nat} (h : By S X v L) (hS : ∀ q, S q → q < X.heap.size → lo ≤ q ∧ q < hi) : By (fun q => lo ≤ q ∧ q < hi) X v L := h.keep (Mv.weak (fun q hq hs => hS q hs hq))
theorem own_head {S : Nat → Prop} {X : World} {base g n cap : Nat} {L M : List Int} (h : X.ownsRow base 5 1 (.slice (some ⟨g, 0, none⟩) (n + 3) cap) (n + 3) ((L ++ M).map bv)) (hS : S g) (hn : L.length = n) (hl : n ≤ 140737488355000) : By S X (.slice (some ⟨g, 0, none⟩) n cap) L := by
  obtain ⟨h1, h2, h3, h4, -, h6⟩ := own_at h
  refine ⟨_, cap, by rw [hn], by omega, by omega, fun e => (by cases e), .inr ⟨g, 0, rfl, hS, h1, fun i hi => ?_⟩⟩
  rw [Nat.zero_add, h6 i (by rw [List.length_append]; omega), List.getElem_append_left hi]
theorem own_blots {X : World} {base g n cap m : Nat} {L : List Int} (h : X.ownsRow base 5 1 (.slice (some ⟨g, 0, none⟩) n cap) n (L.map bv)) (hm : m ≤ n) : ∀ i, i < m → (∃ x, X.cell? ⟨g, i, none⟩ = some (.int .u8 x)) ∧ X.frozen? ⟨g, i, none⟩ = false := by
  obtain ⟨h1, h2, h3, h4, h5, h6⟩ := own_at h
  exact fun i hi => ⟨⟨_, h6 i (by omega)⟩, h5 i⟩
theorem unpack11s (S : Nat → Prop) (L : List Int) (l c lu : Nat) (va : Option Addr) (w : World) (hL : L.length = l) (hB : By S w (.slice va l c) L) (hr : ∀ x ∈ L, 0 ≤ x ∧ x ≤ 255) (hl : l ≤ 140737488355000) (hlu : (uD L).length = lu) :
    Calls Try.prog 11 #[.slice va l c] w fun e w' => (∃ a c', e = .returned (.tuple #[.agg #[.int .i64 (uX L (gd L 0)), .int .i64 (uX L (gd L 1)), .int .u32 (uX L (wd L 2)), .int .u32 (uX L (wd L 6)), .slice a lu c'], .int .i64 (uE L)]) ∧ Ob w.heap.size w' (.slice a lu c') (uD L)) ∧ Below w.heap.size w w' := by
  refine (unpack11 S L l c va w hL hB hr hl).mono ?_
  rintro e w' ⟨⟨v, rfl, hO⟩, hb⟩
  obtain ⟨a, c', ev⟩ := hO.form
  rw [hlu] at ev
  subst ev
  exact ⟨⟨a, c', rfl, hO⟩, hb⟩
theorem unpack12s (S : Nat → Prop) (L : List Int) (l c lu : Nat) (va : Option Addr) (w : World) (hL : L.length = l) (hB : By S w (.slice va l c) L) (hr : ∀ x ∈ L, 0 ≤ x ∧ x ≤ 255) (hl : l ≤ 140737488355000) (hlu : (uD L).length = lu) :
    Calls Try.prog 12 #[.slice va l c] w fun e w' => (∃ a c', e = .returned (.tuple #[.agg #[.int .i64 (uX L (gd L 0)), .int .i64 (uX L (gd L 1)), .int .u32 (uX L (wd L 2)), .int .u32 (uX L (wd L 6)), .slice a lu c'], .int .i64 (uE L)]) ∧ Ob w.heap.size w' (.slice a lu c') (uD L)) ∧ Below w.heap.size w w' := by
  refine (unpack12 S L l c va w hL hB hr hl).mono ?_
  rintro e w' ⟨⟨v, rfl, hO⟩, hb⟩
  obtain ⟨a, c', ev⟩ := hO.form
  rw [hlu] at ev
  subst ev
  exact ⟨⟨a, c', rfl, hO⟩, hb⟩
set_option maxRecDepth 100000 in
set_option maxHeartbeats 2000000 in
theorem law_any (D L : List Int) (k s n u : Int) (l c lb cb : Nat) (va vb : Option Addr) (w : World) (hD : D.length = l) (hL : L.length = lb) (h1 : By (fun _ => True) w (.slice va l c) D) (h2 : By (fun _ => True) w (.slice vb lb cb) L) (hr : ∀ x ∈ L, 0 ≤ x ∧ x ≤ 255) (n0 : 0 ≤ n) (n1 : n < 4294967296) (u0 : 0 ≤ u) (u1 : u < 4294967296) (hl : l ≤ 140737488355000) (hlb : lb ≤ 140737488355000) : Calls Try.prog 3 #[.agg #[.int .i64 k, .int .i64 s, .int .u32 n, .int .u32 u, .slice va l c], .slice vb lb cb] w fun e w' => e = .returned (.bool true) ∧ Below w.heap.size w w' := by
  have hP := pkL_le k s n u D
  have hU := uD_le L
  generalize hlp : (pkL k s n u D).length = lp at *
  generalize hlu : (uD L).length = lu at *
  have hlp' : Hid ((pkL k s n u D).length = lp) := hlp
  have hlu' : Hid ((uD L).length = lu) := hlu
  have hD' : Hid (D.length = l) := hD
  have hL' : Hid (L.length = lb) := hL
  have hr' : Hid (∀ x ∈ L, 0 ≤ x ∧ x ≤ 255) := hr
  clear hlp hlu hD hL hr
  have e1 : By (fun q => 0 ≤ q ∧ q < w.heap.size) w (.slice va l c) D := h1.iv (fun q _ hq => ⟨Nat.zero_le _, hq⟩)
  have e2 : By (fun q => 0 ≤ q ∧ q < w.heap.size) w (.slice vb lb cb) L := h2.iv (fun q _ hq => ⟨Nat.zero_le _, hq⟩)
  clear h1 h2
  have fD : Hid (By (fun q => 0 ≤ q ∧ q < w.heap.size) (w.alloc (.cells #[.int .i64 k, .int .i64 s, .int .u32 n, .int .u32 u, .slice va l c] 25)) (.slice va l c) (D)) := e1.keep (Mv.below belN1)
  have fL : Hid (By (fun q => 0 ≤ q ∧ q < w.heap.size) (w.alloc (.cells #[.int .i64 k, .int .i64 s, .int .u32 n, .int .u32 u, .slice va l c] 25)) (.slice vb lb cb) (L)) := e2.keep (Mv.below belN1)
  have fm : Hid (Has (w.alloc (.cells #[.int .i64 k, .int .i64 s, .int .u32 n, .int .u32 u, .slice va l c] 25)) (w.heap.size) #[.int .i64 k, .int .i64 s, .int .u32 n, .int .u32 u, .slice va l c]) := Has.new _ _ _ rfl
  have fb : Hid (Below w.heap.size w (w.alloc (.cells #[.int .i64 k, .int .i64 s, .int .u32 n, .int .u32 u, .slice va l c] 25))) := belN1
  clear e1 e2
  have z0 : (w.alloc (.cells #[.int .i64 k, .int .i64 s, .int .u32 n, .int .u32 u, .slice va l c] 25)).heap.size = w.heap.size + 1 := by simp
  go_enter Try.func3, Try.ntmps3
  go_upto_region 1 with fail
  generalize (w.alloc (.cells #[.int .i64 k, .int .i64 s, .int .u32 n, .int .u32 u, .slice va l c] 25)) = W0 at *
  have m0 := fm.out.2.1 0
  have m1 := fm.out.2.1 1
  have m2 := fm.out.2.1 2
  have m3 := fm.out.2.1 3
  have m4 := fm.out.2.1 4
  have h4 := padded_any _ D l va c W0 hD'.out fD.out hl
  go_upto_region 2 with (go_at_call 4; (with_reducible refine Calls.mono h4 ?_); clear h4; rintro e w1 ⟨⟨g1, c1, rfl, hg1, o1⟩, hb1⟩)
  clear m0 m1 m2 m3 m4
  have zb1 := hb1.size
  have gl1 := (own_at o1).1
  replace fD : Hid (By (fun q => 0 ≤ q ∧ q < w.heap.size) w1 (.slice va l c) (D)) := fD.out.keep (Mv.below hb1)
  replace fL : Hid (By (fun q => 0 ≤ q ∧ q < w.heap.size) w1 (.slice vb lb cb) (L)) := fL.out.keep (Mv.below hb1)
  replace fm : Hid (Has w1 (w.heap.size) #[.int .i64 k, .int .i64 s, .int .u32 n, .int .u32 u, .slice va l c]) := fm.out.below hb1
  replace fb : Hid (Below w.heap.size w w1) := fb.out.trans (hb1.mono fb.out.size)
  have fo : Hid ((w1).ownsRow W0.heap.size 5 1 (.slice (some ⟨g1, 0, none⟩) (l + 3) c1) (l + 3) ((D ++ [11, 12, 13]).map bv)) := o1
  clear o1 hb1
  have hc1 : l + 3 ≤ c1 := (own_at fo.out).2.2.2.1
  have s1 := fun W : World => slice_to W g1 (l + 3) c1 l (by omega)
  have m0 := fm.out.2.1 0
  have m1 := fm.out.2.1 1
  have m2 := fm.out.2.1 2
  have m3 := fm.out.2.1 3
  have m4 := fm.out.2.1 4
  go_upto_region 3 with fail
  clear m0 m1 m2 m3 m4
  have hx : Below w1.heap.size w1 (w1.alloc (.cells #[.int .i64 k, .int .i64 s, .int .u32 n, .int .u32 u, .slice va l c] 25)) := belN1
  replace fD : Hid (By (fun q => 0 ≤ q ∧ q < w.heap.size) (w1.alloc (.cells #[.int .i64 k, .int .i64 s, .int .u32 n, .int .u32 u, .slice va l c] 25)) (.slice va l c) (D)) := fD.out.keep (Mv.below hx)
  replace fL : Hid (By (fun q => 0 ≤ q ∧ q < w.heap.size) (w1.alloc (.cells #[.int .i64 k, .int .i64 s, .int .u32 n, .int .u32 u, .slice va l c] 25)) (.slice vb lb cb) (L)) := fL.out.keep (Mv.below hx)
  replace fm : Hid (Has (w1.alloc (.cells #[.int .i64 k, .int .i64 s, .int .u32 n, .int .u32 u, .slice va l c] 25)) (w.heap.size) #[.int .i64 k, .int .i64 s, .int .u32 n, .int .u32 u, .slice va l c]) := fm.out.below hx
  replace fb : Hid (Below w.heap.size w (w1.alloc (.cells #[.int .i64 k, .int .i64 s, .int .u32 n, .int .u32 u, .slice va l c] 25))) := fb.out.trans (hx.mono fb.out.size)
  replace fo : Hid (((w1.alloc (.cells #[.int .i64 k, .int .i64 s, .int .u32 n, .int .u32 u, .slice va l c] 25))).ownsRow W0.heap.size 5 1 (.slice (some ⟨g1, 0, none⟩) (l + 3) c1) (l + 3) ((D ++ [11, 12, 13]).map bv)) := own_bel fo.out hx
  have fi : Hid (Has (w1.alloc (.cells #[.int .i64 k, .int .i64 s, .int .u32 n, .int .u32 u, .slice va l c] 25)) (w1.heap.size) #[.int .i64 k, .int .i64 s, .int .u32 n, .int .u32 u, .slice va l c]) := Has.new _ _ _ rfl
  have zW2 : (w1.alloc (.cells #[.int .i64 k, .int .i64 s, .int .u32 n, .int .u32 u, .slice va l c] 25)).heap.size = w1.heap.size + 1 := by simp
  clear hx
  generalize (w1.alloc (.cells #[.int .i64 k, .int .i64 s, .int .u32 n, .int .u32 u, .slice va l c] 25)) = W2 at *
  have m0 := fm.out.2.1 0
  have m1 := fm.out.2.1 1
  have m2 := fm.out.2.1 2
  have m3 := fm.out.2.1 3
  have m4 := fm.out.2.1 4
  have i0 := fi.out.2.1 0
  have i1 := fi.out.2.1 1
  have i2 := fi.out.2.1 2
  have i3 := fi.out.2.1 3
  have i4 := fi.out.2.1 4
  have ff := fi.out.2.2
  go_upto_region 4 with fail
  clear m0 m1 m2 m3 m4 i0 i1 i2 i3 i4 ff
  have ho : Only (fun q => q = w1.heap.size) W2 (W2.setCell ⟨w1.heap.size, 4, none⟩ (.slice (some ⟨g1, 0, none⟩) l c1)) := only_of_set W2 w1.heap.size 4 _
  replace fD : Hid (By (fun q => 0 ≤ q ∧ q < w.heap.size) (W2.setCell ⟨w1.heap.size, 4, none⟩ (.slice (some ⟨g1, 0, none⟩) l c1)) (.slice va l c) (D)) := fD.out.keep (mv_only ho (fun q hq e => by have e' : _ = w1.heap.size := e; omega))
  replace fL : Hid (By (fun q => 0 ≤ q ∧ q < w.heap.size) (W2.setCell ⟨w1.heap.size, 4, none⟩ (.slice (some ⟨g1, 0, none⟩) l c1)) (.slice vb lb cb) (L)) := fL.out.keep (mv_only ho (fun q hq e => by have e' : _ = w1.heap.size := e; omega))
  replace fm : Hid (Has (W2.setCell ⟨w1.heap.size, 4, none⟩ (.slice (some ⟨g1, 0, none⟩) l c1)) (w.heap.size) #[.int .i64 k, .int .i64 s, .int .u32 n, .int .u32 u, .slice va l c]) := fm.out.only ho (fun e => by have e' : _ = w1.heap.size := e; omega)
  replace fb : Hid (Below w.heap.size w (W2.setCell ⟨w1.heap.size, 4, none⟩ (.slice (some ⟨g1, 0, none⟩) l c1))) := only_bel fb.out ho (Nat.le_refl _) (fun q e => by have e' : _ = w1.heap.size := e; omega)
  replace fo : Hid (((W2.setCell ⟨w1.heap.size, 4, none⟩ (.slice (some ⟨g1, 0, none⟩) l c1))).ownsRow W0.heap.size 5 1 (.slice (some ⟨g1, 0, none⟩) (l + 3) c1) (l + 3) ((D ++ [11, 12, 13]).map bv)) := own_only2 fo.out ho (fun q hq e => by have hq' : g1 = q := (by injection hq); have e' : _ = w1.heap.size := e; omega)
  replace fi : Hid (Has (W2.setCell ⟨w1.heap.size, 4, none⟩ (.slice (some ⟨g1, 0, none⟩) l c1)) (w1.heap.size) #[.int .i64 k, .int .i64 s, .int .u32 n, .int .u32 u, .slice (some ⟨g1, 0, none⟩) l c1]) := fi.out.set 4 (by simp) _
  have zW3 := ho.size
  clear ho
  generalize (W2.setCell ⟨w1.heap.size, 4, none⟩ (.slice (some ⟨g1, 0, none⟩) l c1)) = W3 at *
  have m0 := fm.out.2.1 0
  have m1 := fm.out.2.1 1
  have m2 := fm.out.2.1 2
  have m3 := fm.out.2.1 3
  have m4 := fm.out.2.1 4
  have h5 := pack5 _ k s n u D l c va W3 hD'.out fD.out n0 n1 u0 u1 hl
  go_upto_region 5 with (go_at_call 5; (with_reducible refine Calls.mono h5 ?_); clear h5; rintro e w5 ⟨⟨v5, rfl, O5⟩, hb5⟩; obtain ⟨a5, c5, ev⟩ := O5.form; rw [hlp'.out] at ev; subst ev)
  clear m0 m1 m2 m3 m4
  have zw5 := hb5.size
  replace fD : Hid (By (fun q => 0 ≤ q ∧ q < w.heap.size) w5 (.slice va l c) (D)) := fD.out.keep (Mv.below hb5)
  replace fL : Hid (By (fun q => 0 ≤ q ∧ q < w.heap.size) w5 (.slice vb lb cb) (L)) := fL.out.keep (Mv.below hb5)
  replace fm : Hid (Has w5 (w.heap.size) #[.int .i64 k, .int .i64 s, .int .u32 n, .int .u32 u, .slice va l c]) := fm.out.below hb5
  replace fb : Hid (Below w.heap.size w w5) := fb.out.trans (hb5.mono fb.out.size)
  replace fo : Hid ((w5).ownsRow W0.heap.size 5 1 (.slice (some ⟨g1, 0, none⟩) (l + 3) c1) (l + 3) ((D ++ [11, 12, 13]).map bv)) := own_bel fo.out hb5
  replace fi : Hid (Has w5 (w1.heap.size) #[.int .i64 k, .int .i64 s, .int .u32 n, .int .u32 u, .slice (some ⟨g1, 0, none⟩) l c1]) := fi.out.below hb5
  have f5 : Hid (By (fun q => W3.heap.size ≤ q ∧ q < w5.heap.size) w5 (.slice a5 lp c5) (pkL k s n u D)) := O5.by.iv (fun q hq _ => O5.lt q hq)
  clear O5 hb5
  have i0 := fi.out.2.1 0
  have i1 := fi.out.2.1 1
  have i2 := fi.out.2.1 2
  have i3 := fi.out.2.1 3
  have i4 := fi.out.2.1 4
  have h6 := pack6 _ k s n u D l c1 (some ⟨g1, 0, none⟩) w5 hD'.out (own_head (S := fun q => q = g1) fo.out rfl hD'.out hl) n0 n1 u0 u1 hl
  go_upto_region 6 with (go_at_call 6; (with_reducible refine Calls.mono h6 ?_); clear h6; rintro e w6 ⟨⟨v6, rfl, O6⟩, hb6⟩; obtain ⟨a6, c6, ev⟩ := O6.form; rw [hlp'.out] at ev; subst ev)
  clear i0 i1 i2 i3 i4
  have lt6 := O6.lt
  have zw6 := hb6.size
  replace fD : Hid (By (fun q => 0 ≤ q ∧ q < w.heap.size) w6 (.slice va l c) (D)) := fD.out.keep (Mv.below hb6)
  replace fL : Hid (By (fun q => 0 ≤ q ∧ q < w.heap.size) w6 (.slice vb lb cb) (L)) := fL.out.keep (Mv.below hb6)
  replace fm : Hid (Has w6 (w.heap.size) #[.int .i64 k, .int .i64 s, .int .u32 n, .int .u32 u, .slice va l c]) := fm.out.below hb6
  replace fb : Hid (Below w.heap.size w w6) := fb.out.trans (hb6.mono fb.out.size)
  replace fo : Hid ((w6).ownsRow W0.heap.size 5 1 (.slice (some ⟨g1, 0, none⟩) (l + 3) c1) (l + 3) ((D ++ [11, 12, 13]).map bv)) := own_bel fo.out hb6
  replace fi : Hid (Has w6 (w1.heap.size) #[.int .i64 k, .int .i64 s, .int .u32 n, .int .u32 u, .slice (some ⟨g1, 0, none⟩) l c1]) := fi.out.below hb6
  replace f5 : Hid (By (fun q => W3.heap.size ≤ q ∧ q < w5.heap.size) w6 (.slice a5 lp c5) (pkL k s n u D)) := f5.out.keep (Mv.below hb6)
  have fp : Hid (Ob w5.heap.size w6 (.slice a6 lp c6) (pkL k s n u D)) := O6
  clear O6 hb6
  have lt6' : Hid (∀ q, (Value.slice a6 lp c6).ownBlock = some q → w5.heap.size ≤ q ∧ q < w6.heap.size) := lt6
  clear lt6
  have h7 := bytes_any _ _ _ lp a6 a5 c6 c5 w6 hlp'.out fp.out.by f5.out (by omega)
  go_upto_region 8 with (first | (go_at_call 7; (with_reducible refine Calls.mono h7 ?_); clear h7; rintro e w7 ⟨rfl, hb7⟩; have zw7 := hb7.size; replace fD : Hid (By (fun q => 0 ≤ q ∧ q < w.heap.size) w7 (.slice va l c) (D)) := fD.out.keep (Mv.below hb7); replace fL : Hid (By (fun q => 0 ≤ q ∧ q < w.heap.size) w7 (.slice vb lb cb) (L)) := fL.out.keep (Mv.below hb7); replace fm : Hid (Has w7 (w.heap.size) #[.int .i64 k, .int .i64 s, .int .u32 n, .int .u32 u, .slice va l c]) := fm.out.below hb7; replace fb : Hid (Below w.heap.size w w7) := fb.out.trans (hb7.mono fb.out.size); replace fo : Hid ((w7).ownsRow W0.heap.size 5 1 (.slice (some ⟨g1, 0, none⟩) (l + 3) c1) (l + 3) ((D ++ [11, 12, 13]).map bv)) := own_bel fo.out hb7; replace fi : Hid (Has w7 (w1.heap.size) #[.int .i64 k, .int .i64 s, .int .u32 n, .int .u32 u, .slice (some ⟨g1, 0, none⟩) l c1]) := fi.out.below hb7; replace f5 : Hid (By (fun q => W3.heap.size ≤ q ∧ q < w5.heap.size) w7 (.slice a5 lp c5) (pkL k s n u D)) := f5.out.keep (Mv.below hb7); replace fp : Hid (Ob w5.heap.size w7 (.slice a6 lp c6) (pkL k s n u D)) := fp.out.below hb7; clear hb7; have m4 := fm.out.2.1 4; have h8 := whole_any _ (fun q => q = g1) D l va c g1 c1 w7 hD'.out fD.out hl (own_by fo.out rfl (by omega))) | (go_at_call 8; (with_reducible refine Calls.mono h8 ?_); clear h8; rintro e w8 ⟨rfl, hb8⟩))
  clear m4
  have zw8 := hb8.size
  replace fD : Hid (By (fun q => 0 ≤ q ∧ q < w.heap.size) w8 (.slice va l c) (D)) := fD.out.keep (Mv.below hb8)
  replace fL : Hid (By (fun q => 0 ≤ q ∧ q < w.heap.size) w8 (.slice vb lb cb) (L)) := fL.out.keep (Mv.below hb8)
  replace fm : Hid (Has w8 (w.heap.size) #[.int .i64 k, .int .i64 s, .int .u32 n, .int .u32 u, .slice va l c]) := fm.out.below hb8
  replace fb : Hid (Below w.heap.size w w8) := fb.out.trans (hb8.mono fb.out.size)
  replace fo : Hid ((w8).ownsRow W0.heap.size 5 1 (.slice (some ⟨g1, 0, none⟩) (l + 3) c1) (l + 3) ((D ++ [11, 12, 13]).map bv)) := own_bel fo.out hb8
  replace fi : Hid (Has w8 (w1.heap.size) #[.int .i64 k, .int .i64 s, .int .u32 n, .int .u32 u, .slice (some ⟨g1, 0, none⟩) l c1]) := fi.out.below hb8
  replace f5 : Hid (By (fun q => W3.heap.size ≤ q ∧ q < w5.heap.size) w8 (.slice a5 lp c5) (pkL k s n u D)) := f5.out.keep (Mv.below hb8)
  replace fp : Hid (Ob w5.heap.size w8 (.slice a6 lp c6) (pkL k s n u D)) := fp.out.below hb8
  clear hb8
  have h9 := spoil_any _ _ lp a6 c6 33 w8 fp.out hlp'.out (by omega) (by decide)
  go_upto_region 9 with (go_at_call 9; (with_reducible refine Calls.mono h9 ?_); clear h9; rintro e w9 ⟨⟨ag, cg, rfl, B1, B2⟩, ho9⟩)
  clear fp
  have zw9 := ho9.size
  replace fD : Hid (By (fun q => 0 ≤ q ∧ q < w.heap.size) w9 (.slice va l c) (D)) := fD.out.keep (mv_only ho9 (fun q hq e => by have e' := lt6'.out _ e; omega))
  replace fL : Hid (By (fun q => 0 ≤ q ∧ q < w.heap.size) w9 (.slice vb lb cb) (L)) := fL.out.keep (mv_only ho9 (fun q hq e => by have e' := lt6'.out _ e; omega))
  replace fm : Hid (Has w9 (w.heap.size) #[.int .i64 k, .int .i64 s, .int .u32 n, .int .u32 u, .slice va l c]) := fm.out.only ho9 (fun e => by have e' := lt6'.out _ e; omega)
  replace fb : Hid (Below w.heap.size w w9) := only_bel fb.out ho9 (Nat.le_refl _) (fun q e => by have e' := lt6'.out _ e; omega)
  replace fo : Hid ((w9).ownsRow W0.heap.size 5 1 (.slice (some ⟨g1, 0, none⟩) (l + 3) c1) (l + 3) ((D ++ [11, 12, 13]).map bv)) := own_only2 fo.out ho9 (fun q hq e => by have hq' : g1 = q := (by injection hq); have e' := lt6'.out _ e; omega)
  replace fi : Hid (Has w9 (w1.heap.size) #[.int .i64 k, .int .i64 s, .int .u32 n, .int .u32 u, .slice (some ⟨g1, 0, none⟩) l c1]) := fi.out.only ho9 (fun e => by have e' := lt6'.out _ e; omega)
  replace f5 : Hid (By (fun q => W3.heap.size ≤ q ∧ q < w5.heap.size) w9 (.slice a5 lp c5) (pkL k s n u D)) := f5.out.keep (mv_only ho9 (fun q hq e => by have e' := lt6'.out _ e; omega))
  have fk1 : Hid (By (fun q => w5.heap.size ≤ q ∧ q < w6.heap.size) w9 (.slice a6 lp c6) (List.replicate lp 33)) := B1.iv (fun q hq _ => lt6'.out q hq)
  have fk2 : Hid (By (fun q => (w5.heap.size ≤ q ∧ q < w6.heap.size) ∨ (w8.heap.size ≤ q ∧ q < w9.heap.size)) w9 (.slice ag (lp + 64) cg) (List.replicate lp 33 ++ List.replicate 64 (33 + 1))) := B2.keep (Mv.weak (fun q hz hq => hq.elim (fun h => .inl (lt6'.out q h)) (fun h => .inr ⟨h, hz⟩)))
  clear B1 B2 ho9 lt6'
  have hx : Below w9.heap.size w9 (w9.alloc (.cells #[.slice a6 lp c6, .slice ag (lp + 64) cg, .int .u8 33] 32)) := belN1
  replace fD : Hid (By (fun q => 0 ≤ q ∧ q < w.heap.size) (w9.alloc (.cells #[.slice a6 lp c6, .slice ag (lp + 64) cg, .int .u8 33] 32)) (.slice va l c) (D)) := fD.out.keep (Mv.below hx)
  replace fL : Hid (By (fun q => 0 ≤ q ∧ q < w.heap.size) (w9.alloc (.cells #[.slice a6 lp c6, .slice ag (lp + 64) cg, .int .u8 33] 32)) (.slice vb lb cb) (L)) := fL.out.keep (Mv.below hx)
  replace fm : Hid (Has (w9.alloc (.cells #[.slice a6 lp c6, .slice ag (lp + 64) cg, .int .u8 33] 32)) (w.heap.size) #[.int .i64 k, .int .i64 s, .int .u32 n, .int .u32 u, .slice va l c]) := fm.out.below hx
  replace fb : Hid (Below w.heap.size w (w9.alloc (.cells #[.slice a6 lp c6, .slice ag (lp + 64) cg, .int .u8 33] 32))) := fb.out.trans (hx.mono fb.out.size)
  replace fo : Hid (((w9.alloc (.cells #[.slice a6 lp c6, .slice ag (lp + 64) cg, .int .u8 33] 32))).ownsRow W0.heap.size 5 1 (.slice (some ⟨g1, 0, none⟩) (l + 3) c1) (l + 3) ((D ++ [11, 12, 13]).map bv)) := own_bel fo.out hx
  replace fi : Hid (Has (w9.alloc (.cells #[.slice a6 lp c6, .slice ag (lp + 64) cg, .int .u8 33] 32)) (w1.heap.size) #[.int .i64 k, .int .i64 s, .int .u32 n, .int .u32 u, .slice (some ⟨g1, 0, none⟩) l c1]) := fi.out.below hx
  replace f5 : Hid (By (fun q => W3.heap.size ≤ q ∧ q < w5.heap.size) (w9.alloc (.cells #[.slice a6 lp c6, .slice ag (lp + 64) cg, .int .u8 33] 32)) (.slice a5 lp c5) (pkL k s n u D)) := f5.out.keep (Mv.below hx)
  replace fk1 : Hid (By (fun q => w5.heap.size ≤ q ∧ q < w6.heap.size) (w9.alloc (.cells #[.slice a6 lp c6, .slice ag (lp + 64) cg, .int .u8 33] 32)) (.slice a6 lp c6) (List.replicate lp 33)) := fk1.out.keep (Mv.below hx)
  replace fk2 : Hid (By (fun q => (w5.heap.size ≤ q ∧ q < w6.heap.size) ∨ (w8.heap.size ≤ q ∧ q < w9.heap.size)) (w9.alloc (.cells #[.slice a6 lp c6, .slice ag (lp + 64) cg, .int .u8 33] 32)) (.slice ag (lp + 64) cg) (List.replicate lp 33 ++ List.replicate 64 (33 + 1))) := fk2.out.keep (Mv.below hx)
  have fk : Hid (Has (w9.alloc (.cells #[.slice a6 lp c6, .slice ag (lp + 64) cg, .int .u8 33] 32)) (w9.heap.size) #[.slice a6 lp c6, .slice ag (lp + 64) cg, .int .u8 33]) := Has.new _ _ _ rfl
  have zW9 : (w9.alloc (.cells #[.slice a6 lp c6, .slice ag (lp + 64) cg, .int .u8 33] 32)).heap.size = w9.heap.size + 1 := by simp
  clear hx
  generalize (w9.alloc (.cells #[.slice a6 lp c6, .slice ag (lp + 64) cg, .int .u8 33] 32)) = W9 at *
  have i0 := fi.out.2.1 0
  have i1 := fi.out.2.1 1
  have i2 := fi.out.2.1 2
  have i3 := fi.out.2.1 3
  have i4 := fi.out.2.1 4
  have h6 := pack6 _ k s n u D l c1 (some ⟨g1, 0, none⟩) W9 hD'.out (own_head (S := fun q => q = g1) fo.out rfl hD'.out hl) n0 n1 u0 u1 hl
  go_upto_region 10 with (go_at_call 6; (with_reducible refine Calls.mono h6 ?_); clear h6; rintro e w10 ⟨⟨v7, rfl, O7⟩, hb10⟩; obtain ⟨a7, c7, ev⟩ := O7.form; rw [hlp'.out] at ev; subst ev)
  clear i0 i1 i2 i3 i4
  have zw10 := hb10.size
  replace fD : Hid (By (fun q => 0 ≤ q ∧ q < w.heap.size) w10 (.slice va l c) (D)) := fD.out.keep (Mv.below hb10)
  replace fL : Hid (By (fun q => 0 ≤ q ∧ q < w.heap.size) w10 (.slice vb lb cb) (L)) := fL.out.keep (Mv.below hb10)
  replace fm : Hid (Has w10 (w.heap.size) #[.int .i64 k, .int .i64 s, .int .u32 n, .int .u32 u, .slice va l c]) := fm.out.below hb10
  replace fb : Hid (Below w.heap.size w w10) := fb.out.trans (hb10.mono fb.out.size)
  replace fo : Hid ((w10).ownsRow W0.heap.size 5 1 (.slice (some ⟨g1, 0, none⟩) (l + 3) c1) (l + 3) ((D ++ [11, 12, 13]).map bv)) := own_bel fo.out hb10
  replace fi : Hid (Has w10 (w1.heap.size) #[.int .i64 k, .int .i64 s, .int .u32 n, .int .u32 u, .slice (some ⟨g1, 0, none⟩) l c1]) := fi.out.below hb10
  replace f5 : Hid (By (fun q => W3.heap.size ≤ q ∧ q < w5.heap.size) w10 (.slice a5 lp c5) (pkL k s n u D)) := f5.out.keep (Mv.below hb10)
  replace fk1 : Hid (By (fun q => w5.heap.size ≤ q ∧ q < w6.heap.size) w10 (.slice a6 lp c6) (List.replicate lp 33)) := fk1.out.keep (Mv.below hb10)
  replace fk2 : Hid (By (fun q => (w5.heap.size ≤ q ∧ q < w6.heap.size) ∨ (w8.heap.size ≤ q ∧ q < w9.heap.size)) w10 (.slice ag (lp + 64) cg) (List.replicate lp 33 ++ List.replicate 64 (33 + 1))) := fk2.out.keep (Mv.below hb10)
  replace fk : Hid (Has w10 (w9.heap.size) #[.slice a6 lp c6, .slice ag (lp + 64) cg, .int .u8 33]) := fk.out.below hb10
  have f7 : Hid (By (fun q => W9.heap.size ≤ q ∧ q < w10.heap.size) w10 (.slice a7 lp c7) (pkL k s n u D)) := O7.by.iv (fun q hq _ => O7.lt q hq)
  clear O7 hb10
  have m4 := fm.out.2.1 4
  have h8 := whole_any _ (fun q => q = g1) D l va c g1 c1 w10 hD'.out fD.out hl (own_by fo.out rfl (by omega))
  go_upto_region 12 with (go_at_call 8; (with_reducible refine Calls.mono h8 ?_); clear h8; rintro e w11 ⟨rfl, hb11⟩)
  clear m4
  have zw11 := hb11.size
  replace fD : Hid (By (fun q => 0 ≤ q ∧ q < w.heap.size) w11 (.slice va l c) (D)) := fD.out.keep (Mv.below hb11)
  replace fL : Hid (By (fun q => 0 ≤ q ∧ q < w.heap.size) w11 (.slice vb lb cb) (L)) := fL.out.keep (Mv.below hb11)
  replace fm : Hid (Has w11 (w.heap.size) #[.int .i64 k, .int .i64 s, .int .u32 n, .int .u32 u, .slice va l c]) := fm.out.below hb11
  replace fb : Hid (Below w.heap.size w w11) := fb.out.trans (hb11.mono fb.out.size)
  replace fo : Hid ((w11).ownsRow W0.heap.size 5 1 (.slice (some ⟨g1, 0, none⟩) (l + 3) c1) (l + 3) ((D ++ [11, 12, 13]).map bv)) := own_bel fo.out hb11
  replace fi : Hid (Has w11 (w1.heap.size) #[.int .i64 k, .int .i64 s, .int .u32 n, .int .u32 u, .slice (some ⟨g1, 0, none⟩) l c1]) := fi.out.below hb11
  replace f5 : Hid (By (fun q => W3.heap.size ≤ q ∧ q < w5.heap.size) w11 (.slice a5 lp c5) (pkL k s n u D)) := f5.out.keep (Mv.below hb11)
  replace fk1 : Hid (By (fun q => w5.heap.size ≤ q ∧ q < w6.heap.size) w11 (.slice a6 lp c6) (List.replicate lp 33)) := fk1.out.keep (Mv.below hb11)
  replace fk2 : Hid (By (fun q => (w5.heap.size ≤ q ∧ q < w6.heap.size) ∨ (w8.heap.size ≤ q ∧ q < w9.heap.size)) w11 (.slice ag (lp + 64) cg) (List.replicate lp 33 ++ List.replicate 64 (33 + 1))) := fk2.out.keep (Mv.below hb11)
  replace fk : Hid (Has w11 (w9.heap.size) #[.slice a6 lp c6, .slice ag (lp + 64) cg, .int .u8 33]) := fk.out.below hb11
  replace f7 : Hid (By (fun q => W9.heap.size ≤ q ∧ q < w10.heap.size) w11 (.slice a7 lp c7) (pkL k s n u D)) := f7.out.keep (Mv.below hb11)
  clear hb11
  have i4 := fi.out.2.1 4
  have h10 := blot_any g1 l c1 w11 (own_blots fo.out (by omega)) (by omega)
  go_upto_region 13 with (go_at_call 10; (with_reducible refine Calls.mono h10 ?_); clear h10; rintro e w12 ⟨rfl, ho12⟩)
  clear i4
  clear fo fi
  have zw12 := ho12.size
  replace fD : Hid (By (fun q => 0 ≤ q ∧ q < w.heap.size) w12 (.slice va l c) (D)) := fD.out.keep (mv_only ho12 (fun q hq e => by have e' : _ = g1 := e; omega))
  replace fL : Hid (By (fun q => 0 ≤ q ∧ q < w.heap.size) w12 (.slice vb lb cb) (L)) := fL.out.keep (mv_only ho12 (fun q hq e => by have e' : _ = g1 := e; omega))
  replace fm : Hid (Has w12 (w.heap.size) #[.int .i64 k, .int .i64 s, .int .u32 n, .int .u32 u, .slice va l c]) := fm.out.only ho12 (fun e => by have e' : _ = g1 := e; omega)
  replace fb : Hid (Below w.heap.size w w12) := only_bel fb.out ho12 (Nat.le_refl _) (fun q e => by have e' : _ = g1 := e; omega)
  replace f5 : Hid (By (fun q => W3.heap.size ≤ q ∧ q < w5.heap.size) w12 (.slice a5 lp c5) (pkL k s n u D)) := f5.out.keep (mv_only ho12 (fun q hq e => by have e' : _ = g1 := e; omega))
  replace fk1 : Hid (By (fun q => w5.heap.size ≤ q ∧ q < w6.heap.size) w12 (.slice a6 lp c6) (List.replicate lp 33)) := fk1.out.keep (mv_only ho12 (fun q hq e => by have e' : _ = g1 := e; omega))
  replace fk2 : Hid (By (fun q => (w5.heap.size ≤ q ∧ q < w6.heap.size) ∨ (w8.heap.size ≤ q ∧ q < w9.heap.size)) w12 (.slice ag (lp + 64) cg) (List.replicate lp 33 ++ List.replicate 64 (33 + 1))) := fk2.out.keep (mv_only ho12 (fun q hq e => by have e' : _ = g1 := e; omega))
  replace fk : Hid (Has w12 (w9.heap.size) #[.slice a6 lp c6, .slice ag (lp + 64) cg, .int .u8 33]) := fk.out.only ho12 (fun e => by have e' : _ = g1 := e; omega)
  replace f7 : Hid (By (fun q => W9.heap.size ≤ q ∧ q < w10.heap.size) w12 (.slice a7 lp c7) (pkL k s n u D)) := f7.out.keep (mv_only ho12 (fun q hq e => by have e' : _ = g1 := e; omega))
  clear ho12
  have h7 := bytes_any _ _ _ lp a7 a5 c7 c5 w12 hlp'.out f7.out f5.out (by omega)
  go_upto_region 15 with (go_at_call 7; (with_reducible refine Calls.mono h7 ?_); clear h7; rintro e w13 ⟨rfl, hb13⟩)
  have zw13 := hb13.size
  replace fD : Hid (By (fun q => 0 ≤ q ∧ q < w.heap.size) w13 (.slice va l c) (D)) := fD.out.keep (Mv.below hb13)
  replace fL : Hid (By (fun q => 0 ≤ q ∧ q < w.heap.size) w13 (.slice vb lb cb) (L)) := fL.out.keep (Mv.below hb13)
  replace fm : Hid (Has w13 (w.heap.size) #[.int .i64 k, .int .i64 s, .int .u32 n, .int .u32 u, .slice va l c]) := fm.out.below hb13
  replace fb : Hid (Below w.heap.size w w13) := fb.out.trans (hb13.mono fb.out.size)
  replace f5 : Hid (By (fun q => W3.heap.size ≤ q ∧ q < w5.heap.size) w13 (.slice a5 lp c5) (pkL k s n u D)) := f5.out.keep (Mv.below hb13)
  replace fk1 : Hid (By (fun q => w5.heap.size ≤ q ∧ q < w6.heap.size) w13 (.slice a6 lp c6) (List.replicate lp 33)) := fk1.out.keep (Mv.below hb13)
  replace fk2 : Hid (By (fun q => (w5.heap.size ≤ q ∧ q < w6.heap.size) ∨ (w8.heap.size ≤ q ∧ q < w9.heap.size)) w13 (.slice ag (lp + 64) cg) (List.replicate lp 33 ++ List.replicate 64 (33 + 1))) := fk2.out.keep (Mv.below hb13)
  replace fk : Hid (Has w13 (w9.heap.size) #[.slice a6 lp c6, .slice ag (lp + 64) cg, .int .u8 33]) := fk.out.below hb13
  replace f7 : Hid (By (fun q => W9.heap.size ≤ q ∧ q < w10.heap.size) w13 (.slice a7 lp c7) (pkL k s n u D)) := f7.out.keep (Mv.below hb13)
  clear hb13
  have h4 := padded_any _ L lb vb cb w13 hL'.out fL.out hlb
  go_upto_region 16 with (go_at_call 4; (with_reducible refine Calls.mono h4 ?_); clear h4; rintro e w15 ⟨⟨g2, c2, rfl, hg2, o2⟩, hb15⟩)
  have gl2 := (own_at o2).1
  have hc2 : lb + 3 ≤ c2 := (own_at o2).2.2.2.1
  have s2 := fun W : World => slice_to W g2 (lb + 3) c2 lb (by omega)
  have zw15 := hb15.size
  replace fD : Hid (By (fun q => 0 ≤ q ∧ q < w.heap.size) w15 (.slice va l c) (D)) := fD.out.keep (Mv.below hb15)
  replace fL : Hid (By (fun q => 0 ≤ q ∧ q < w.heap.size) w15 (.slice vb lb cb) (L)) := fL.out.keep (Mv.below hb15)
  replace fm : Hid (Has w15 (w.heap.size) #[.int .i64 k, .int .i64 s, .int .u32 n, .int .u32 u, .slice va l c]) := fm.out.below hb15
  replace fb : Hid (Below w.heap.size w w15) := fb.out.trans (hb15.mono fb.out.size)
  replace f5 : Hid (By (fun q => W3.heap.size ≤ q ∧ q < w5.heap.size) w15 (.slice a5 lp c5) (pkL k s n u D)) := f5.out.keep (Mv.below hb15)
  replace fk1 : Hid (By (fun q => w5.heap.size ≤ q ∧ q < w6.heap.size) w15 (.slice a6 lp c6) (List.replicate lp 33)) := fk1.out.keep (Mv.below hb15)
  replace fk2 : Hid (By (fun q => (w5.heap.size ≤ q ∧ q < w6.heap.size) ∨ (w8.heap.size ≤ q ∧ q < w9.heap.size)) w15 (.slice ag (lp + 64) cg) (List.replicate lp 33 ++ List.replicate 64 (33 + 1))) := fk2.out.keep (Mv.below hb15)
  replace fk : Hid (Has w15 (w9.heap.size) #[.slice a6 lp c6, .slice ag (lp + 64) cg, .int .u8 33]) := fk.out.below hb15
  replace f7 : Hid (By (fun q => W9.heap.size ≤ q ∧ q < w10.heap.size) w15 (.slice a7 lp c7) (pkL k s n u D)) := f7.out.keep (Mv.below hb15)
  have fo2 : Hid ((w15).ownsRow w13.heap.size 5 1 (.slice (some ⟨g2, 0, none⟩) (lb + 3) c2) (lb + 3) ((L ++ [11, 12, 13]).map bv)) := o2
  clear o2 hb15
  have h11 := unpack11s _ L lb cb lu vb w15 hL'.out fL.out hr'.out hlb hlu'.out
  go_upto_region 17 with (go_at_call 11; (with_reducible refine Calls.mono h11 ?_); clear h11; rintro e w16 ⟨⟨a8, c8, rfl, O8⟩, hb16⟩)
  have zw16 := hb16.size
  replace fD : Hid (By (fun q => 0 ≤ q ∧ q < w.heap.size) w16 (.slice va l c) (D)) := fD.out.keep (Mv.below hb16)
  replace fL : Hid (By (fun q => 0 ≤ q ∧ q < w.heap.size) w16 (.slice vb lb cb) (L)) := fL.out.keep (Mv.below hb16)
  replace fm : Hid (Has w16 (w.heap.size) #[.int .i64 k, .int .i64 s, .int .u32 n, .int .u32 u, .slice va l c]) := fm.out.below hb16
  replace fb : Hid (Below w.heap.size w w16) := fb.out.trans (hb16.mono fb.out.size)
  replace f5 : Hid (By (fun q => W3.heap.size ≤ q ∧ q < w5.heap.size) w16 (.slice a5 lp c5) (pkL k s n u D)) := f5.out.keep (Mv.below hb16)
  replace fk1 : Hid (By (fun q => w5.heap.size ≤ q ∧ q < w6.heap.size) w16 (.slice a6 lp c6) (List.replicate lp 33)) := fk1.out.keep (Mv.below hb16)
  replace fk2 : Hid (By (fun q => (w5.heap.size ≤ q ∧ q < w6.heap.size) ∨ (w8.heap.size ≤ q ∧ q < w9.heap.size)) w16 (.slice ag (lp + 64) cg) (List.replicate lp 33 ++ List.replicate 64 (33 + 1))) := fk2.out.keep (Mv.below hb16)
  replace fk : Hid (Has w16 (w9.heap.size) #[.slice a6 lp c6, .slice ag (lp + 64) cg, .int .u8 33]) := fk.out.below hb16
  replace f7 : Hid (By (fun q => W9.heap.size ≤ q ∧ q < w10.heap.size) w16 (.slice a7 lp c7) (pkL k s n u D)) := f7.out.keep (Mv.below hb16)
  replace fo2 : Hid ((w16).ownsRow w13.heap.size 5 1 (.slice (some ⟨g2, 0, none⟩) (lb + 3) c2) (lb + 3) ((L ++ [11, 12, 13]).map bv)) := own_bel fo2.out hb16
  have f8 : Hid (By (fun q => w15.heap.size ≤ q ∧ q < w16.heap.size) w16 (.slice a8 lu c8) (uD L)) := O8.by.iv (fun q hq _ => O8.lt q hq)
  clear O8 hb16
  have hx : Below w16.heap.size w16 (w16.alloc (.cells #[.int .i64 (uX L (gd L 0)), .int .i64 (uX L (gd L 1)), .int .u32 (uX L (wd L 2)), .int .u32 (uX L (wd L 6)), .slice a8 lu c8] 25)) := belN1
  replace fD : Hid (By (fun q => 0 ≤ q ∧ q < w.heap.size) (w16.alloc (.cells #[.int .i64 (uX L (gd L 0)), .int .i64 (uX L (gd L 1)), .int .u32 (uX L (wd L 2)), .int .u32 (uX L (wd L 6)), .slice a8 lu c8] 25)) (.slice va l c) (D)) := fD.out.keep (Mv.below hx)
  replace fL : Hid (By (fun q => 0 ≤ q ∧ q < w.heap.size) (w16.alloc (.cells #[.int .i64 (uX L (gd L 0)), .int .i64 (uX L (gd L 1)), .int .u32 (uX L (wd L 2)), .int .u32 (uX L (wd L 6)), .slice a8 lu c8] 25)) (.slice vb lb cb) (L)) := fL.out.keep (Mv.below hx)
  replace fm : Hid (Has (w16.alloc (.cells #[.int .i64 (uX L (gd L 0)), .int .i64 (uX L (gd L 1)), .int .u32 (uX L (wd L 2)), .int .u32 (uX L (wd L 6)), .slice a8 lu c8] 25)) (w.heap.size) #[.int .i64 k, .int .i64 s, .int .u32 n, .int .u32 u, .slice va l c]) := fm.out.below hx
  replace fb : Hid (Below w.heap.size w (w16.alloc (.cells #[.int .i64 (uX L (gd L 0)), .int .i64 (uX L (gd L 1)), .int .u32 (uX L (wd L 2)), .int .u32 (uX L (wd L 6)), .slice a8 lu c8] 25))) := fb.out.trans (hx.mono fb.out.size)
  replace f5 : Hid (By (fun q => W3.heap.size ≤ q ∧ q < w5.heap.size) (w16.alloc (.cells #[.int .i64 (uX L (gd L 0)), .int .i64 (uX L (gd L 1)), .int .u32 (uX L (wd L 2)), .int .u32 (uX L (wd L 6)), .slice a8 lu c8] 25)) (.slice a5 lp c5) (pkL k s n u D)) := f5.out.keep (Mv.below hx)
  replace fk1 : Hid (By (fun q => w5.heap.size ≤ q ∧ q < w6.heap.size) (w16.alloc (.cells #[.int .i64 (uX L (gd L 0)), .int .i64 (uX L (gd L 1)), .int .u32 (uX L (wd L 2)), .int .u32 (uX L (wd L 6)), .slice a8 lu c8] 25)) (.slice a6 lp c6) (List.replicate lp 33)) := fk1.out.keep (Mv.below hx)
  replace fk2 : Hid (By (fun q => (w5.heap.size ≤ q ∧ q < w6.heap.size) ∨ (w8.heap.size ≤ q ∧ q < w9.heap.size)) (w16.alloc (.cells #[.int .i64 (uX L (gd L 0)), .int .i64 (uX L (gd L 1)), .int .u32 (uX L (wd L 2)), .int .u32 (uX L (wd L 6)), .slice a8 lu c8] 25)) (.slice ag (lp + 64) cg) (List.replicate lp 33 ++ List.replicate 64 (33 + 1))) := fk2.out.keep (Mv.below hx)
  replace fk : Hid (Has (w16.alloc (.cells #[.int .i64 (uX L (gd L 0)), .int .i64 (uX L (gd L 1)), .int .u32 (uX L (wd L 2)), .int .u32 (uX L (wd L 6)), .slice a8 lu c8] 25)) (w9.heap.size) #[.slice a6 lp c6, .slice ag (lp + 64) cg, .int .u8 33]) := fk.out.below hx
  replace f7 : Hid (By (fun q => W9.heap.size ≤ q ∧ q < w10.heap.size) (w16.alloc (.cells #[.int .i64 (uX L (gd L 0)), .int .i64 (uX L (gd L 1)), .int .u32 (uX L (wd L 2)), .int .u32 (uX L (wd L 6)), .slice a8 lu c8] 25)) (.slice a7 lp c7) (pkL k s n u D)) := f7.out.keep (Mv.below hx)
  replace fo2 : Hid (((w16.alloc (.cells #[.int .i64 (uX L (gd L 0)), .int .i64 (uX L (gd L 1)), .int .u32 (uX L (wd L 2)), .int .u32 (uX L (wd L 6)), .slice a8 lu c8] 25))).ownsRow w13.heap.size 5 1 (.slice (some ⟨g2, 0, none⟩) (lb + 3) c2) (lb + 3) ((L ++ [11, 12, 13]).map bv)) := own_bel fo2.out hx
  replace f8 : Hid (By (fun q => w15.heap.size ≤ q ∧ q < w16.heap.size) (w16.alloc (.cells #[.int .i64 (uX L (gd L 0)), .int .i64 (uX L (gd L 1)), .int .u32 (uX L (wd L 2)), .int .u32 (uX L (wd L 6)), .slice a8 lu c8] 25)) (.slice a8 lu c8) (uD L)) := f8.out.keep (Mv.below hx)
  have fx : Hid (Has (w16.alloc (.cells #[.int .i64 (uX L (gd L 0)), .int .i64 (uX L (gd L 1)), .int .u32 (uX L (wd L 2)), .int .u32 (uX L (wd L 6)), .slice a8 lu c8] 25)) (w16.heap.size) #[.int .i64 (uX L (gd L 0)), .int .i64 (uX L (gd L 1)), .int .u32 (uX L (wd L 2)), .int .u32 (uX L (wd L 6)), .slice a8 lu c8]) := Has.new _ _ _ rfl
  have zW16 : (w16.alloc (.cells #[.int .i64 (uX L (gd L 0)), .int .i64 (uX L (gd L 1)), .int .u32 (uX L (wd L 2)), .int .u32 (uX L (wd L 6)), .slice a8 lu c8] 25)).heap.size = w16.heap.size + 1 := by simp
  clear hx
  generalize (w16.alloc (.cells #[.int .i64 (uX L (gd L 0)), .int .i64 (uX L (gd L 1)), .int .u32 (uX L (wd L 2)), .int .u32 (uX L (wd L 6)), .slice a8 lu c8] 25)) = W16 at *
  have h12 := unpack12s _ L lb c2 lu (some ⟨g2, 0, none⟩) W16 hL'.out (own_head (S := fun q => q = g2) fo2.out rfl hL'.out hlb) hr'.out hlb hlu'.out
  go_upto_region 18 with (go_at_call 12; (with_reducible refine Calls.mono h12 ?_); clear h12; rintro e w17 ⟨⟨a9, c9, rfl, O9⟩, hb17⟩)
  have lt9' : Hid (∀ q, (Value.slice a9 lu c9).ownBlock = some q → W16.heap.size ≤ q ∧ q < w17.heap.size) := O9.lt
  have zw17 := hb17.size
  replace fD : Hid (By (fun q => 0 ≤ q ∧ q < w.heap.size) w17 (.slice va l c) (D)) := fD.out.keep (Mv.below hb17)
  replace fL : Hid (By (fun q => 0 ≤ q ∧ q < w.heap.size) w17 (.slice vb lb cb) (L)) := fL.out.keep (Mv.below hb17)
  replace fm : Hid (Has w17 (w.heap.size) #[.int .i64 k, .int .i64 s, .int .u32 n, .int .u32 u, .slice va l c]) := fm.out.below hb17
  replace fb : Hid (Below w.heap.size w w17) := fb.out.trans (hb17.mono fb.out.size)
  replace f5 : Hid (By (fun q => W3.heap.size ≤ q ∧ q < w5.heap.size) w17 (.slice a5 lp c5) (pkL k s n u D)) := f5.out.keep (Mv.below hb17)
  replace fk1 : Hid (By (fun q => w5.heap.size ≤ q ∧ q < w6.heap.size) w17 (.slice a6 lp c6) (List.replicate lp 33)) := fk1.out.keep (Mv.below hb17)
  replace fk2 : Hid (By (fun q => (w5.heap.size ≤ q ∧ q < w6.heap.size) ∨ (w8.heap.size ≤ q ∧ q < w9.heap.size)) w17 (.slice ag (lp + 64) cg) (List.replicate lp 33 ++ List.replicate 64 (33 + 1))) := fk2.out.keep (Mv.below hb17)
  replace fk : Hid (Has w17 (w9.heap.size) #[.slice a6 lp c6, .slice ag (lp + 64) cg, .int .u8 33]) := fk.out.below hb17
  replace f7 : Hid (By (fun q => W9.heap.size ≤ q ∧ q < w10.heap.size) w17 (.slice a7 lp c7) (pkL k s n u D)) := f7.out.keep (Mv.below hb17)
  replace fo2 : Hid ((w17).ownsRow w13.heap.size 5 1 (.slice (some ⟨g2, 0, none⟩) (lb + 3) c2) (lb + 3) ((L ++ [11, 12, 13]).map bv)) := own_bel fo2.out hb17
  replace f8 : Hid (By (fun q => w15.heap.size ≤ q ∧ q < w16.heap.size) w17 (.slice a8 lu c8) (uD L)) := f8.out.keep (Mv.below hb17)
  replace fx : Hid (Has w17 (w16.heap.size) #[.int .i64 (uX L (gd L 0)), .int .i64 (uX L (gd L 1)), .int .u32 (uX L (wd L 2)), .int .u32 (uX L (wd L 6)), .slice a8 lu c8]) := fx.out.below hb17
  have fy : Hid (Ob W16.heap.size w17 (.slice a9 lu c9) (uD L)) := O9
  clear O9 hb17
  have hx : Below w17.heap.size w17 (w17.alloc (.cells #[.int .i64 (uX L (gd L 0)), .int .i64 (uX L (gd L 1)), .int .u32 (uX L (wd L 2)), .int .u32 (uX L (wd L 6)), .slice a9 lu c9] 25)) := belN1
  replace fD : Hid (By (fun q => 0 ≤ q ∧ q < w.heap.size) (w17.alloc (.cells #[.int .i64 (uX L (gd L 0)), .int .i64 (uX L (gd L 1)), .int .u32 (uX L (wd L 2)), .int .u32 (uX L (wd L 6)), .slice a9 lu c9] 25)) (.slice va l c) (D)) := fD.out.keep (Mv.below hx)
  replace fL : Hid (By (fun q => 0 ≤ q ∧ q < w.heap.size) (w17.alloc (.cells #[.int .i64 (uX L (gd L 0)), .int .i64 (uX L (gd L 1)), .int .u32 (uX L (wd L 2)), .int .u32 (uX L (wd L 6)), .slice a9 lu c9] 25)) (.slice vb lb cb) (L)) := fL.out.keep (Mv.below hx)
  replace fm : Hid (Has (w17.alloc (.cells #[.int .i64 (uX L (gd L 0)), .int .i64 (uX L (gd L 1)), .int .u32 (uX L (wd L 2)), .int .u32 (uX L (wd L 6)), .slice a9 lu c9] 25)) (w.heap.size) #[.int .i64 k, .int .i64 s, .int .u32 n, .int .u32 u, .slice va l c]) := fm.out.below hx
  replace fb : Hid (Below w.heap.size w (w17.alloc (.cells #[.int .i64 (uX L (gd L 0)), .int .i64 (uX L (gd L 1)), .int .u32 (uX L (wd L 2)), .int .u32 (uX L (wd L 6)), .slice a9 lu c9] 25))) := fb.out.trans (hx.mono fb.out.size)
  replace f5 : Hid (By (fun q => W3.heap.size ≤ q ∧ q < w5.heap.size) (w17.alloc (.cells #[.int .i64 (uX L (gd L 0)), .int .i64 (uX L (gd L 1)), .int .u32 (uX L (wd L 2)), .int .u32 (uX L (wd L 6)), .slice a9 lu c9] 25)) (.slice a5 lp c5) (pkL k s n u D)) := f5.out.keep (Mv.below hx)
  replace fk1 : Hid (By (fun q => w5.heap.size ≤ q ∧ q < w6.heap.size) (w17.alloc (.cells #[.int .i64 (uX L (gd L 0)), .int .i64 (uX L (gd L 1)), .int .u32 (uX L (wd L 2)), .int .u32 (uX L (wd L 6)), .slice a9 lu c9] 25)) (.slice a6 lp c6) (List.replicate lp 33)) := fk1.out.keep (Mv.below hx)
  replace fk2 : Hid (By (fun q => (w5.heap.size ≤ q ∧ q < w6.heap.size) ∨ (w8.heap.size ≤ q ∧ q < w9.heap.size)) (w17.alloc (.cells #[.int .i64 (uX L (gd L 0)), .int .i64 (uX L (gd L 1)), .int .u32 (uX L (wd L 2)), .int .u32 (uX L (wd L 6)), .slice a9 lu c9] 25)) (.slice ag (lp + 64) cg) (List.replicate lp 33 ++ List.replicate 64 (33 + 1))) := fk2.out.keep (Mv.below hx)
  replace fk : Hid (Has (w17.alloc (.cells #[.int .i64 (uX L (gd L 0)), .int .i64 (uX L (gd L 1)), .int .u32 (uX L (wd L 2)), .int .u32 (uX L (wd L 6)), .slice a9 lu c9] 25)) (w9.heap.size) #[.slice a6 lp c6, .slice ag (lp + 64) cg, .int .u8 33]) := fk.out.below hx
  replace f7 : Hid (By (fun q => W9.heap.size ≤ q ∧ q < w10.heap.size) (w17.alloc (.cells #[.int .i64 (uX L (gd L 0)), .int .i64 (uX L (gd L 1)), .int .u32 (uX L (wd L 2)), .int .u32 (uX L (wd L 6)), .slice a9 lu c9] 25)) (.slice a7 lp c7) (pkL k s n u D)) := f7.out.keep (Mv.below hx)
  replace fo2 : Hid (((w17.alloc (.cells #[.int .i64 (uX L (gd L 0)), .int .i64 (uX L (gd L 1)), .int .u32 (uX L (wd L 2)), .int .u32 (uX L (wd L 6)), .slice a9 lu c9] 25))).ownsRow w13.heap.size 5 1 (.slice (some ⟨g2, 0, none⟩) (lb + 3) c2) (lb + 3) ((L ++ [11, 12, 13]).map bv)) := own_bel fo2.out hx
  replace f8 : Hid (By (fun q => w15.heap.size ≤ q ∧ q < w16.heap.size) (w17.alloc (.cells #[.int .i64 (uX L (gd L 0)), .int .i64 (uX L (gd L 1)), .int .u32 (uX L (wd L 2)), .int .u32 (uX L (wd L 6)), .slice a9 lu c9] 25)) (.slice a8 lu c8) (uD L)) := f8.out.keep (Mv.below hx)
  replace fx : Hid (Has (w17.alloc (.cells #[.int .i64 (uX L (gd L 0)), .int .i64 (uX L (gd L 1)), .int .u32 (uX L (wd L 2)), .int .u32 (uX L (wd L 6)), .slice a9 lu c9] 25)) (w16.heap.size) #[.int .i64 (uX L (gd L 0)), .int .i64 (uX L (gd L 1)), .int .u32 (uX L (wd L 2)), .int .u32 (uX L (wd L 6)), .slice a8 lu c8]) := fx.out.below hx
  replace fy : Hid (Ob W16.heap.size (w17.alloc (.cells #[.int .i64 (uX L (gd L 0)), .int .i64 (uX L (gd L 1)), .int .u32 (uX L (wd L 2)), .int .u32 (uX L (wd L 6)), .slice a9 lu c9] 25)) (.slice a9 lu c9) (uD L)) := fy.out.below hx
  have fyb : Hid (Has (w17.alloc (.cells #[.int .i64 (uX L (gd L 0)), .int .i64 (uX L (gd L 1)), .int .u32 (uX L (wd L 2)), .int .u32 (uX L (wd L 6)), .slice a9 lu c9] 25)) (w17.heap.size) #[.int .i64 (uX L (gd L 0)), .int .i64 (uX L (gd L 1)), .int .u32 (uX L (wd L 2)), .int .u32 (uX L (wd L 6)), .slice a9 lu c9]) := Has.new _ _ _ rfl
  have zW17 : (w17.alloc (.cells #[.int .i64 (uX L (gd L 0)), .int .i64 (uX L (gd L 1)), .int .u32 (uX L (wd L 2)), .int .u32 (uX L (wd L 6)), .slice a9 lu c9] 25)).heap.size = w17.heap.size + 1 := by simp
  clear hx
  generalize (w17.alloc (.cells #[.int .i64 (uX L (gd L 0)), .int .i64 (uX L (gd L 1)), .int .u32 (uX L (wd L 2)), .int .u32 (uX L (wd L 6)), .slice a9 lu c9] 25)) = W17 at *
  have x0 := fx.out.2.1 0
  have x1 := fx.out.2.1 1
  have x2 := fx.out.2.1 2
  have x3 := fx.out.2.1 3
  have x4 := fx.out.2.1 4
  have y0 := fyb.out.2.1 0
  have y1 := fyb.out.2.1 1
  have y2 := fyb.out.2.1 2
  have y3 := fyb.out.2.1 3
  have y4 := fyb.out.2.1 4
  have h13 := wireMsg_any _ _ (uD L) lu (uX L (gd L 0)) (uX L (gd L 1)) (uX L (wd L 2)) (uX L (wd L 6)) a8 a9 c8 c9 W17 hlu'.out f8.out fy.out.by (by omega)
  go_upto_region 20 with (first | (go_at_call 13; (with_reducible refine Calls.mono h13 ?_); clear h13; rintro e w18 ⟨rfl, hb18⟩; have zw18 := hb18.size; replace fD : Hid (By (fun q => 0 ≤ q ∧ q < w.heap.size) w18 (.slice va l c) (D)) := fD.out.keep (Mv.below hb18); replace fL : Hid (By (fun q => 0 ≤ q ∧ q < w.heap.size) w18 (.slice vb lb cb) (L)) := fL.out.keep (Mv.below hb18); replace fm : Hid (Has w18 (w.heap.size) #[.int .i64 k, .int .i64 s, .int .u32 n, .int .u32 u, .slice va l c]) := fm.out.below hb18; replace fb : Hid (Below w.heap.size w w18) := fb.out.trans (hb18.mono fb.out.size); replace f5 : Hid (By (fun q => W3.heap.size ≤ q ∧ q < w5.heap.size) w18 (.slice a5 lp c5) (pkL k s n u D)) := f5.out.keep (Mv.below hb18); replace fk1 : Hid (By (fun q => w5.heap.size ≤ q ∧ q < w6.heap.size) w18 (.slice a6 lp c6) (List.replicate lp 33)) := fk1.out.keep (Mv.below hb18); replace fk2 : Hid (By (fun q => (w5.heap.size ≤ q ∧ q < w6.heap.size) ∨ (w8.heap.size ≤ q ∧ q < w9.heap.size)) w18 (.slice ag (lp + 64) cg) (List.replicate lp 33 ++ List.replicate 64 (33 + 1))) := fk2.out.keep (Mv.below hb18); replace fk : Hid (Has w18 (w9.heap.size) #[.slice a6 lp c6, .slice ag (lp + 64) cg, .int .u8 33]) := fk.out.below hb18; replace f7 : Hid (By (fun q => W9.heap.size ≤ q ∧ q < w10.heap.size) w18 (.slice a7 lp c7) (pkL k s n u D)) := f7.out.keep (Mv.below hb18); replace fo2 : Hid ((w18).ownsRow w13.heap.size 5 1 (.slice (some ⟨g2, 0, none⟩) (lb + 3) c2) (lb + 3) ((L ++ [11, 12, 13]).map bv)) := own_bel fo2.out hb18; replace f8 : Hid (By (fun q => w15.heap.size ≤ q ∧ q < w16.heap.size) w18 (.slice a8 lu c8) (uD L)) := f8.out.keep (Mv.below hb18); replace fx : Hid (Has w18 (w16.heap.size) #[.int .i64 (uX L (gd L 0)), .int .i64 (uX L (gd L 1)), .int .u32 (uX L (wd L 2)), .int .u32 (uX L (wd L 6)), .slice a8 lu c8]) := fx.out.below hb18; replace fy : Hid (Ob W16.heap.size w18 (.slice a9 lu c9) (uD L)) := fy.out.below hb18; replace fyb : Hid (Has w18 (w17.heap.size) #[.int .i64 (uX L (gd L 0)), .int .i64 (uX L (gd L 1)), .int .u32 (uX L (wd L 2)), .int .u32 (uX L (wd L 6)), .slice a9 lu c9]) := fyb.out.below hb18; clear hb18; have h8 := whole_any _ (fun q => q = g2) L lb vb cb g2 c2 w18 hL'.out fL.out hlb (own_by fo2.out rfl (by omega))) | (go_at_call 8; (with_reducible refine Calls.mono h8 ?_); clear h8; rintro e w19 ⟨rfl, hb19⟩))
  clear x0 x1 x2 x3 x4 y0 y1 y2 y3 y4
  have zw19 := hb19.size
  replace fD : Hid (By (fun q => 0 ≤ q ∧ q < w.heap.size) w19 (.slice va l c) (D)) := fD.out.keep (Mv.below hb19)
  replace fL : Hid (By (fun q => 0 ≤ q ∧ q < w.heap.size) w19 (.slice vb lb cb) (L)) := fL.out.keep (Mv.below hb19)
  replace fm : Hid (Has w19 (w.heap.size) #[.int .i64 k, .int .i64 s, .int .u32 n, .int .u32 u, .slice va l c]) := fm.out.below hb19
  replace fb : Hid (Below w.heap.size w w19) := fb.out.trans (hb19.mono fb.out.size)
  replace f5 : Hid (By (fun q => W3.heap.size ≤ q ∧ q < w5.heap.size) w19 (.slice a5 lp c5) (pkL k s n u D)) := f5.out.keep (Mv.below hb19)
  replace fk1 : Hid (By (fun q => w5.heap.size ≤ q ∧ q < w6.heap.size) w19 (.slice a6 lp c6) (List.replicate lp 33)) := fk1.out.keep (Mv.below hb19)
  replace fk2 : Hid (By (fun q => (w5.heap.size ≤ q ∧ q < w6.heap.size) ∨ (w8.heap.size ≤ q ∧ q < w9.heap.size)) w19 (.slice ag (lp + 64) cg) (List.replicate lp 33 ++ List.replicate 64 (33 + 1))) := fk2.out.keep (Mv.below hb19)
  replace fk : Hid (Has w19 (w9.heap.size) #[.slice a6 lp c6, .slice ag (lp + 64) cg, .int .u8 33]) := fk.out.below hb19
  replace f7 : Hid (By (fun q => W9.heap.size ≤ q ∧ q < w10.heap.size) w19 (.slice a7 lp c7) (pkL k s n u D)) := f7.out.keep (Mv.below hb19)
  replace fo2 : Hid ((w19).ownsRow w13.heap.size 5 1 (.slice (some ⟨g2, 0, none⟩) (lb + 3) c2) (lb + 3) ((L ++ [11, 12, 13]).map bv)) := own_bel fo2.out hb19
  replace f8 : Hid (By (fun q => w15.heap.size ≤ q ∧ q < w16.heap.size) w19 (.slice a8 lu c8) (uD L)) := f8.out.keep (Mv.below hb19)
  replace fx : Hid (Has w19 (w16.heap.size) #[.int .i64 (uX L (gd L 0)), .int .i64 (uX L (gd L 1)), .int .u32 (uX L (wd L 2)), .int .u32 (uX L (wd L 6)), .slice a8 lu c8]) := fx.out.below hb19
  replace fy : Hid (Ob W16.heap.size w19 (.slice a9 lu c9) (uD L)) := fy.out.below hb19
  replace fyb : Hid (Has w19 (w17.heap.size) #[.int .i64 (uX L (gd L 0)), .int .i64 (uX L (gd L 1)), .int .u32 (uX L (wd L 2)), .int .u32 (uX L (wd L 6)), .slice a9 lu c9]) := fyb.out.below hb19
  clear hb19
  have y0 := fyb.out.2.1 0
  have y1 := fyb.out.2.1 1
  have y2 := fyb.out.2.1 2
  have y3 := fyb.out.2.1 3
  have y4 := fyb.out.2.1 4
  have h9 := spoil_any _ _ lu a9 c9 67 w19 fy.out hlu'.out (by omega) (by decide)
  go_upto_region 21 with (go_at_call 9; (with_reducible refine Calls.mono h9 ?_); clear h9; rintro e w20 ⟨⟨al, cl, rfl, B1, B2⟩, ho20⟩)
  clear y0 y1 y2 y3 y4
  clear fy
  have zw20 := ho20.size
  replace fD : Hid (By (fun q => 0 ≤ q ∧ q < w.heap.size) w20 (.slice va l c) (D)) := fD.out.keep (mv_only ho20 (fun q hq e => by have e' := lt9'.out _ e; omega))
  replace fL : Hid (By (fun q => 0 ≤ q ∧ q < w.heap.size) w20 (.slice vb lb cb) (L)) := fL.out.keep (mv_only ho20 (fun q hq e => by have e' := lt9'.out _ e; omega))
  replace fm : Hid (Has w20 (w.heap.size) #[.int .i64 k, .int .i64 s, .int .u32 n, .int .u32 u, .slice va l c]) := fm.out.only ho20 (fun e => by have e' := lt9'.out _ e; omega)
  replace fb : Hid (Below w.heap.size w w20) := only_bel fb.out ho20 (Nat.le_refl _) (fun q e => by have e' := lt9'.out _ e; omega)
  replace f5 : Hid (By (fun q => W3.heap.size ≤ q ∧ q < w5.heap.size) w20 (.slice a5 lp c5) (pkL k s n u D)) := f5.out.keep (mv_only ho20 (fun q hq e => by have e' := lt9'.out _ e; omega))
  replace fk1 : Hid (By (fun q => w5.heap.size ≤ q ∧ q < w6.heap.size) w20 (.slice a6 lp c6) (List.replicate lp 33)) := fk1.out.keep (mv_only ho20 (fun q hq e => by have e' := lt9'.out _ e; omega))
  replace fk2 : Hid (By (fun q => (w5.heap.size ≤ q ∧ q < w6.heap.size) ∨ (w8.heap.size ≤ q ∧ q < w9.heap.size)) w20 (.slice ag (lp + 64) cg) (List.replicate lp 33 ++ List.replicate 64 (33 + 1))) := fk2.out.keep (mv_only ho20 (fun q hq e => by have e' := lt9'.out _ e; omega))
  replace fk : Hid (Has w20 (w9.heap.size) #[.slice a6 lp c6, .slice ag (lp + 64) cg, .int .u8 33]) := fk.out.only ho20 (fun e => by have e' := lt9'.out _ e; omega)
  replace f7 : Hid (By (fun q => W9.heap.size ≤ q ∧ q < w10.heap.size) w20 (.slice a7 lp c7) (pkL k s n u D)) := f7.out.keep (mv_only ho20 (fun q hq e => by have e' := lt9'.out _ e; omega))
  replace fo2 : Hid ((w20).ownsRow w13.heap.size 5 1 (.slice (some ⟨g2, 0, none⟩) (lb + 3) c2) (lb + 3) ((L ++ [11, 12, 13]).map bv)) := own_only2 fo2.out ho20 (fun q hq e => by have hq' : g2 = q := (by injection hq); have e' := lt9'.out _ e; omega)
  replace f8 : Hid (By (fun q => w15.heap.size ≤ q ∧ q < w16.heap.size) w20 (.slice a8 lu c8) (uD L)) := f8.out.keep (mv_only ho20 (fun q hq e => by have e' := lt9'.out _ e; omega))
  replace fx : Hid (Has w20 (w16.heap.size) #[.int .i64 (uX L (gd L 0)), .int .i64 (uX L (gd L 1)), .int .u32 (uX L (wd L 2)), .int .u32 (uX L (wd L 6)), .slice a8 lu c8]) := fx.out.only ho20 (fun e => by have e' := lt9'.out _ e; omega)
  replace fyb : Hid (Has w20 (w17.heap.size) #[.int .i64 (uX L (gd L 0)), .int .i64 (uX L (gd L 1)), .int .u32 (uX L (wd L 2)), .int .u32 (uX L (wd L 6)), .slice a9 lu c9]) := fyb.out.only ho20 (fun e => by have e' := lt9'.out _ e; omega)
  have fl1 : Hid (By (fun q => W16.heap.size ≤ q ∧ q < w17.heap.size) w20 (.slice a9 lu c9) (List.replicate lu 67)) := B1.iv (fun q hq _ => lt9'.out q hq)
  have fl2 : Hid (By (fun q => (W16.heap.size ≤ q ∧ q < w17.heap.size) ∨ (w19.heap.size ≤ q ∧ q < w20.heap.size)) w20 (.slice al (lu + 64) cl) (List.replicate lu 67 ++ List.replicate 64 (67 + 1))) := B2.keep (Mv.weak (fun q hz hq => hq.elim (fun h => .inl (lt9'.out q h)) (fun h => .inr ⟨h, hz⟩)))
  clear B1 B2 ho20 lt9'
  have hx : Below w20.heap.size w20 (w20.alloc (.cells #[.slice a9 lu c9, .slice al (lu + 64) cl, .int .u8 67] 32)) := belN1
  replace fD : Hid (By (fun q => 0 ≤ q ∧ q < w.heap.size) (w20.alloc (.cells #[.slice a9 lu c9, .slice al (lu + 64) cl, .int .u8 67] 32)) (.slice va l c) (D)) := fD.out.keep (Mv.below hx)
  replace fL : Hid (By (fun q => 0 ≤ q ∧ q < w.heap.size) (w20.alloc (.cells #[.slice a9 lu c9, .slice al (lu + 64) cl, .int .u8 67] 32)) (.slice vb lb cb) (L)) := fL.out.keep (Mv.below hx)
  replace fm : Hid (Has (w20.alloc (.cells #[.slice a9 lu c9, .slice al (lu + 64) cl, .int .u8 67] 32)) (w.heap.size) #[.int .i64 k, .int .i64 s, .int .u32 n, .int .u32 u, .slice va l c]) := fm.out.below hx
  replace fb : Hid (Below w.heap.size w (w20.alloc (.cells #[.slice a9 lu c9, .slice al (lu + 64) cl, .int .u8 67] 32))) := fb.out.trans (hx.mono fb.out.size)
  replace f5 : Hid (By (fun q => W3.heap.size ≤ q ∧ q < w5.heap.size) (w20.alloc (.cells #[.slice a9 lu c9, .slice al (lu + 64) cl, .int .u8 67] 32)) (.slice a5 lp c5) (pkL k s n u D)) := f5.out.keep (Mv.below hx)
  replace fk1 : Hid (By (fun q => w5.heap.size ≤ q ∧ q < w6.heap.size) (w20.alloc (.cells #[.slice a9 lu c9, .slice al (lu + 64) cl, .int .u8 67] 32)) (.slice a6 lp c6) (List.replicate lp 33)) := fk1.out.keep (Mv.below hx)
  replace fk2 : Hid (By (fun q => (w5.heap.size ≤ q ∧ q < w6.heap.size) ∨ (w8.heap.size ≤ q ∧ q < w9.heap.size)) (w20.alloc (.cells #[.slice a9 lu c9, .slice al (lu + 64) cl, .int .u8 67] 32)) (.slice ag (lp + 64) cg) (List.replicate lp 33 ++ List.replicate 64 (33 + 1))) := fk2.out.keep (Mv.below hx)
  replace fk : Hid (Has (w20.alloc (.cells #[.slice a9 lu c9, .slice al (lu + 64) cl, .int .u8 67] 32)) (w9.heap.size) #[.slice a6 lp c6, .slice ag (lp + 64) cg, .int .u8 33]) := fk.out.below hx
  replace f7 : Hid (By (fun q => W9.heap.size ≤ q ∧ q < w10.heap.size) (w20.alloc (.cells #[.slice a9 lu c9, .slice al (lu + 64) cl, .int .u8 67] 32)) (.slice a7 lp c7) (pkL k s n u D)) := f7.out.keep (Mv.below hx)
  replace fo2 : Hid (((w20.alloc (.cells #[.slice a9 lu c9, .slice al (lu + 64) cl, .int .u8 67] 32))).ownsRow w13.heap.size 5 1 (.slice (some ⟨g2, 0, none⟩) (lb + 3) c2) (lb + 3) ((L ++ [11, 12, 13]).map bv)) := own_bel fo2.out hx
  replace f8 : Hid (By (fun q => w15.heap.size ≤ q ∧ q < w16.heap.size) (w20.alloc (.cells #[.slice a9 lu c9, .slice al (lu + 64) cl, .int .u8 67] 32)) (.slice a8 lu c8) (uD L)) := f8.out.keep (Mv.below hx)
  replace fx : Hid (Has (w20.alloc (.cells #[.slice a9 lu c9, .slice al (lu + 64) cl, .int .u8 67] 32)) (w16.heap.size) #[.int .i64 (uX L (gd L 0)), .int .i64 (uX L (gd L 1)), .int .u32 (uX L (wd L 2)), .int .u32 (uX L (wd L 6)), .slice a8 lu c8]) := fx.out.below hx
  replace fyb : Hid (Has (w20.alloc (.cells #[.slice a9 lu c9, .slice al (lu + 64) cl, .int .u8 67] 32)) (w17.heap.size) #[.int .i64 (uX L (gd L 0)), .int .i64 (uX L (gd L 1)), .int .u32 (uX L (wd L 2)), .int .u32 (uX L (wd L 6)), .slice a9 lu c9]) := fyb.out.below hx
  replace fl1 : Hid (By (fun q => W16.heap.size ≤ q ∧ q < w17.heap.size) (w20.alloc (.cells #[.slice a9 lu c9, .slice al (lu + 64) cl, .int .u8 67] 32)) (.slice a9 lu c9) (List.replicate lu 67)) := fl1.out.keep (Mv.below hx)
  replace fl2 : Hid (By (fun q => (W16.heap.size ≤ q ∧ q < w17.heap.size) ∨ (w19.heap.size ≤ q ∧ q < w20.heap.size)) (w20.alloc (.cells #[.slice a9 lu c9, .slice al (lu + 64) cl, .int .u8 67] 32)) (.slice al (lu + 64) cl) (List.replicate lu 67 ++ List.replicate 64 (67 + 1))) := fl2.out.keep (Mv.below hx)
  have fl : Hid (Has (w20.alloc (.cells #[.slice a9 lu c9, .slice al (lu + 64) cl, .int .u8 67] 32)) (w20.heap.size) #[.slice a9 lu c9, .slice al (lu + 64) cl, .int .u8 67]) := Has.new _ _ _ rfl
  have zW20 : (w20.alloc (.cells #[.slice a9 lu c9, .slice al (lu + 64) cl, .int .u8 67] 32)).heap.size = w20.heap.size + 1 := by simp
  clear hx
  generalize (w20.alloc (.cells #[.slice a9 lu c9, .slice al (lu + 64) cl, .int .u8 67] 32)) = W20 at *
  have h12 := unpack12s _ L lb c2 lu (some ⟨g2, 0, none⟩) W20 hL'.out (own_head (S := fun q => q = g2) fo2.out rfl hL'.out hlb) hr'.out hlb hlu'.out
  go_upto_region 22 with (go_at_call 12; (with_reducible refine Calls.mono h12 ?_); clear h12; rintro e w21 ⟨⟨a10, c10, rfl, O10⟩, hb21⟩; have zw21 := hb21.size; replace fD : Hid (By (fun q => 0 ≤ q ∧ q < w.heap.size) w21 (.slice va l c) (D)) := fD.out.keep (Mv.below hb21); replace fL : Hid (By (fun q => 0 ≤ q ∧ q < w.heap.size) w21 (.slice vb lb cb) (L)) := fL.out.keep (Mv.below hb21); replace fm : Hid (Has w21 (w.heap.size) #[.int .i64 k, .int .i64 s, .int .u32 n, .int .u32 u, .slice va l c]) := fm.out.below hb21; replace fb : Hid (Below w.heap.size w w21) := fb.out.trans (hb21.mono fb.out.size); replace f5 : Hid (By (fun q => W3.heap.size ≤ q ∧ q < w5.heap.size) w21 (.slice a5 lp c5) (pkL k s n u D)) := f5.out.keep (Mv.below hb21); replace fk1 : Hid (By (fun q => w5.heap.size ≤ q ∧ q < w6.heap.size) w21 (.slice a6 lp c6) (List.replicate lp 33)) := fk1.out.keep (Mv.below hb21); replace fk2 : Hid (By (fun q => (w5.heap.size ≤ q ∧ q < w6.heap.size) ∨ (w8.heap.size ≤ q ∧ q < w9.heap.size)) w21 (.slice ag (lp + 64) cg) (List.replicate lp 33 ++ List.replicate 64 (33 + 1))) := fk2.out.keep (Mv.below hb21); replace fk : Hid (Has w21 (w9.heap.size) #[.slice a6 lp c6, .slice ag (lp + 64) cg, .int .u8 33]) := fk.out.below hb21; replace f7 : Hid (By (fun q => W9.heap.size ≤ q ∧ q < w10.heap.size) w21 (.slice a7 lp c7) (pkL k s n u D)) := f7.out.keep (Mv.below hb21); replace fo2 : Hid ((w21).ownsRow w13.heap.size 5 1 (.slice (some ⟨g2, 0, none⟩) (lb + 3) c2) (lb + 3) ((L ++ [11, 12, 13]).map bv)) := own_bel fo2.out hb21; replace f8 : Hid (By (fun q => w15.heap.size ≤ q ∧ q < w16.heap.size) w21 (.slice a8 lu c8) (uD L)) := f8.out.keep (Mv.below hb21); replace fx : Hid (Has w21 (w16.heap.size) #[.int .i64 (uX L (gd L 0)), .int .i64 (uX L (gd L 1)), .int .u32 (uX L (wd L 2)), .int .u32 (uX L (wd L 6)), .slice a8 lu c8]) := fx.out.below hb21; replace fyb : Hid (Has w21 (w17.heap.size) #[.int .i64 (uX L (gd L 0)), .int .i64 (uX L (gd L 1)), .int .u32 (uX L (wd L 2)), .int .u32 (uX L (wd L 6)), .slice a9 lu c9]) := fyb.out.below hb21; replace fl1 : Hid (By (fun q => W16.heap.size ≤ q ∧ q < w17.heap.size) w21 (.slice a9 lu c9) (List.replicate lu 67)) := fl1.out.keep (Mv.below hb21); replace fl2 : Hid (By (fun q => (W16.heap.size ≤ q ∧ q < w17.heap.size) ∨ (w19.heap.size ≤ q ∧ q < w20.heap.size)) w21 (.slice al (lu + 64) cl) (List.replicate lu 67 ++ List.replicate 64 (67 + 1))) := fl2.out.keep (Mv.below hb21); replace fl : Hid (Has w21 (w20.heap.size) #[.slice a9 lu c9, .slice al (lu + 64) cl, .int .u8 67]) := fl.out.below hb21; have f10 : Hid (By (fun q => W20.heap.size ≤ q ∧ q < w21.heap.size) w21 (.slice a10 lu c10) (uD L)) := O10.by.iv (fun q hq _ => O10.lt q hq); clear O10 hb21; have y0 := fyb.out.2.1 0; have y1 := fyb.out.2.1 1; have y2 := fyb.out.2.1 2; have y3 := fyb.out.2.1 3; have y4 := fyb.out.2.1 4; have yf := fyb.out.2.2)
  clear y0 y1 y2 y3 y4 yf
  have ho : Only (fun q => q = w17.heap.size) w21 (((((w21.setCell ⟨w17.heap.size, 0, none⟩ (.int .i64 (uX L (gd L 0)))).setCell ⟨w17.heap.size, 1, none⟩ (.int .i64 (uX L (gd L 1)))).setCell ⟨w17.heap.size, 2, none⟩ (.int .u32 (uX L (wd L 2)))).setCell ⟨w17.heap.size, 3, none⟩ (.int .u32 (uX L (wd L 6)))).setCell ⟨w17.heap.size, 4, none⟩ (.slice a10 lu c10)) := only5
  replace fD : Hid (By (fun q => 0 ≤ q ∧ q < w.heap.size) (((((w21.setCell ⟨w17.heap.size, 0, none⟩ (.int .i64 (uX L (gd L 0)))).setCell ⟨w17.heap.size, 1, none⟩ (.int .i64 (uX L (gd L 1)))).setCell ⟨w17.heap.size, 2, none⟩ (.int .u32 (uX L (wd L 2)))).setCell ⟨w17.heap.size, 3, none⟩ (.int .u32 (uX L (wd L 6)))).setCell ⟨w17.heap.size, 4, none⟩ (.slice a10 lu c10)) (.slice va l c) (D)) := fD.out.keep (mv_only ho (fun q hq e => by have e' : _ = w17.heap.size := e; omega))
  replace fL : Hid (By (fun q => 0 ≤ q ∧ q < w.heap.size) (((((w21.setCell ⟨w17.heap.size, 0, none⟩ (.int .i64 (uX L (gd L 0)))).setCell ⟨w17.heap.size, 1, none⟩ (.int .i64 (uX L (gd L 1)))).setCell ⟨w17.heap.size, 2, none⟩ (.int .u32 (uX L (wd L 2)))).setCell ⟨w17.heap.size, 3, none⟩ (.int .u32 (uX L (wd L 6)))).setCell ⟨w17.heap.size, 4, none⟩ (.slice a10 lu c10)) (.slice vb lb cb) (L)) := fL.out.keep (mv_only ho (fun q hq e => by have e' : _ = w17.heap.size := e; omega))
  replace fm : Hid (Has (((((w21.setCell ⟨w17.heap.size, 0, none⟩ (.int .i64 (uX L (gd L 0)))).setCell ⟨w17.heap.size, 1, none⟩ (.int .i64 (uX L (gd L 1)))).setCell ⟨w17.heap.size, 2, none⟩ (.int .u32 (uX L (wd L 2)))).setCell ⟨w17.heap.size, 3, none⟩ (.int .u32 (uX L (wd L 6)))).setCell ⟨w17.heap.size, 4, none⟩ (.slice a10 lu c10)) (w.heap.size) #[.int .i64 k, .int .i64 s, .int .u32 n, .int .u32 u, .slice va l c]) := fm.out.only ho (fun e => by have e' : _ = w17.heap.size := e; omega)
  replace fb : Hid (Below w.heap.size w (((((w21.setCell ⟨w17.heap.size, 0, none⟩ (.int .i64 (uX L (gd L 0)))).setCell ⟨w17.heap.size, 1, none⟩ (.int .i64 (uX L (gd L 1)))).setCell ⟨w17.heap.size, 2, none⟩ (.int .u32 (uX L (wd L 2)))).setCell ⟨w17.heap.size, 3, none⟩ (.int .u32 (uX L (wd L 6)))).setCell ⟨w17.heap.size, 4, none⟩ (.slice a10 lu c10))) := only_bel fb.out ho (Nat.le_refl _) (fun q e => by have e' : _ = w17.heap.size := e; omega)
  replace f5 : Hid (By (fun q => W3.heap.size ≤ q ∧ q < w5.heap.size) (((((w21.setCell ⟨w17.heap.size, 0, none⟩ (.int .i64 (uX L (gd L 0)))).setCell ⟨w17.heap.size, 1, none⟩ (.int .i64 (uX L (gd L 1)))).setCell ⟨w17.heap.size, 2, none⟩ (.int .u32 (uX L (wd L 2)))).setCell ⟨w17.heap.size, 3, none⟩ (.int .u32 (uX L (wd L 6)))).setCell ⟨w17.heap.size, 4, none⟩ (.slice a10 lu c10)) (.slice a5 lp c5) (pkL k s n u D)) := f5.out.keep (mv_only ho (fun q hq e => by have e' : _ = w17.heap.size := e; omega))
  replace fk1 : Hid (By (fun q => w5.heap.size ≤ q ∧ q < w6.heap.size) (((((w21.setCell ⟨w17.heap.size, 0, none⟩ (.int .i64 (uX L (gd L 0)))).setCell ⟨w17.heap.size, 1, none⟩ (.int .i64 (uX L (gd L 1)))).setCell ⟨w17.heap.size, 2, none⟩ (.int .u32 (uX L (wd L 2)))).setCell ⟨w17.heap.size, 3, none⟩ (.int .u32 (uX L (wd L 6)))).setCell ⟨w17.heap.size, 4, none⟩ (.slice a10 lu c10)) (.slice a6 lp c6) (List.replicate lp 33)) := fk1.out.keep (mv_only ho (fun q hq e => by have e' : _ = w17.heap.size := e; omega))
  replace fk2 : Hid (By (fun q => (w5.heap.size ≤ q ∧ q < w6.heap.size) ∨ (w8.heap.size ≤ q ∧ q < w9.heap.size)) (((((w21.setCell ⟨w17.heap.size, 0, none⟩ (.int .i64 (uX L (gd L 0)))).setCell ⟨w17.heap.size, 1, none⟩ (.int .i64 (uX L (gd L 1)))).setCell ⟨w17.heap.size, 2, none⟩ (.int .u32 (uX L (wd L 2)))).setCell ⟨w17.heap.size, 3, none⟩ (.int .u32 (uX L (wd L 6)))).setCell ⟨w17.heap.size, 4, none⟩ (.slice a10 lu c10)) (.slice ag (lp + 64) cg) (List.replicate lp 33 ++ List.replicate 64 (33 + 1))) := fk2.out.keep (mv_only ho (fun q hq e => by have e' : _ = w17.heap.size := e; omega))
  replace fk : Hid (Has (((((w21.setCell ⟨w17.heap.size, 0, none⟩ (.int .i64 (uX L (gd L 0)))).setCell ⟨w17.heap.size, 1, none⟩ (.int .i64 (uX L (gd L 1)))).setCell ⟨w17.heap.size, 2, none⟩ (.int .u32 (uX L (wd L 2)))).setCell ⟨w17.heap.size, 3, none⟩ (.int .u32 (uX L (wd L 6)))).setCell ⟨w17.heap.size, 4, none⟩ (.slice a10 lu c10)) (w9.heap.size) #[.slice a6 lp c6, .slice ag (lp + 64) cg, .int .u8 33]) := fk.out.only ho (fun e => by have e' : _ = w17.heap.size := e; omega)
  replace f7 : Hid (By (fun q => W9.heap.size ≤ q ∧ q < w10.heap.size) (((((w21.setCell ⟨w17.heap.size, 0, none⟩ (.int .i64 (uX L (gd L 0)))).setCell ⟨w17.heap.size, 1, none⟩ (.int .i64 (uX L (gd L 1)))).setCell ⟨w17.heap.size, 2, none⟩ (.int .u32 (uX L (wd L 2)))).setCell ⟨w17.heap.size, 3, none⟩ (.int .u32 (uX L (wd L 6)))).setCell ⟨w17.heap.size, 4, none⟩ (.slice a10 lu c10)) (.slice a7 lp c7) (pkL k s n u D)) := f7.out.keep (mv_only ho (fun q hq e => by have e' : _ = w17.heap.size := e; omega))
  replace fo2 : Hid (((((((w21.setCell ⟨w17.heap.size, 0, none⟩ (.int .i64 (uX L (gd L 0)))).setCell ⟨w17.heap.size, 1, none⟩ (.int .i64 (uX L (gd L 1)))).setCell ⟨w17.heap.size, 2, none⟩ (.int .u32 (uX L (wd L 2)))).setCell ⟨w17.heap.size, 3, none⟩ (.int .u32 (uX L (wd L 6)))).setCell ⟨w17.heap.size, 4, none⟩ (.slice a10 lu c10))).ownsRow w13.heap.size 5 1 (.slice (some ⟨g2, 0, none⟩) (lb + 3) c2) (lb + 3) ((L ++ [11, 12, 13]).map bv)) := own_only2 fo2.out ho (fun q hq e => by have hq' : g2 = q := (by injection hq); have e' : _ = w17.heap.size := e; omega)
  replace f8 : Hid (By (fun q => w15.heap.size ≤ q ∧ q < w16.heap.size) (((((w21.setCell ⟨w17.heap.size, 0, none⟩ (.int .i64 (uX L (gd L 0)))).setCell ⟨w17.heap.size, 1, none⟩ (.int .i64 (uX L (gd L 1)))).setCell ⟨w17.heap.size, 2, none⟩ (.int .u32 (uX L (wd L 2)))).setCell ⟨w17.heap.size, 3, none⟩ (.int .u32 (uX L (wd L 6)))).setCell ⟨w17.heap.size, 4, none⟩ (.slice a10 lu c10)) (.slice a8 lu c8) (uD L)) := f8.out.keep (mv_only ho (fun q hq e => by have e' : _ = w17.heap.size := e; omega))
  replace fx : Hid (Has (((((w21.setCell ⟨w17.heap.size, 0, none⟩ (.int .i64 (uX L (gd L 0)))).setCell ⟨w17.heap.size, 1, none⟩ (.int .i64 (uX L (gd L 1)))).setCell ⟨w17.heap.size, 2, none⟩ (.int .u32 (uX L (wd L 2)))).setCell ⟨w17.heap.size, 3, none⟩ (.int .u32 (uX L (wd L 6)))).setCell ⟨w17.heap.size, 4, none⟩ (.slice a10 lu c10)) (w16.heap.size) #[.int .i64 (uX L (gd L 0)), .int .i64 (uX L (gd L 1)), .int .u32 (uX L (wd L 2)), .int .u32 (uX L (wd L 6)), .slice a8 lu c8]) := fx.out.only ho (fun e => by have e' : _ = w17.heap.size := e; omega)
  replace fl1 : Hid (By (fun q => W16.heap.size ≤ q ∧ q < w17.heap.size) (((((w21.setCell ⟨w17.heap.size, 0, none⟩ (.int .i64 (uX L (gd L 0)))).setCell ⟨w17.heap.size, 1, none⟩ (.int .i64 (uX L (gd L 1)))).setCell ⟨w17.heap.size, 2, none⟩ (.int .u32 (uX L (wd L 2)))).setCell ⟨w17.heap.size, 3, none⟩ (.int .u32 (uX L (wd L 6)))).setCell ⟨w17.heap.size, 4, none⟩ (.slice a10 lu c10)) (.slice a9 lu c9) (List.replicate lu 67)) := fl1.out.keep (mv_only ho (fun q hq e => by have e' : _ = w17.heap.size := e; omega))
  replace fl2 : Hid (By (fun q => (W16.heap.size ≤ q ∧ q < w17.heap.size) ∨ (w19.heap.size ≤ q ∧ q < w20.heap.size)) (((((w21.setCell ⟨w17.heap.size, 0, none⟩ (.int .i64 (uX L (gd L 0)))).setCell ⟨w17.heap.size, 1, none⟩ (.int .i64 (uX L (gd L 1)))).setCell ⟨w17.heap.size, 2, none⟩ (.int .u32 (uX L (wd L 2)))).setCell ⟨w17.heap.size, 3, none⟩ (.int .u32 (uX L (wd L 6)))).setCell ⟨w17.heap.size, 4, none⟩ (.slice a10 lu c10)) (.slice al (lu + 64) cl) (List.replicate lu 67 ++ List.replicate 64 (67 + 1))) := fl2.out.keep (mv_only ho (fun q hq e => by have e' : _ = w17.heap.size := e; omega))
  replace fl : Hid (Has (((((w21.setCell ⟨w17.heap.size, 0, none⟩ (.int .i64 (uX L (gd L 0)))).setCell ⟨w17.heap.size, 1, none⟩ (.int .i64 (uX L (gd L 1)))).setCell ⟨w17.heap.size, 2, none⟩ (.int .u32 (uX L (wd L 2)))).setCell ⟨w17.heap.size, 3, none⟩ (.int .u32 (uX L (wd L 6)))).setCell ⟨w17.heap.size, 4, none⟩ (.slice a10 lu c10)) (w20.heap.size) #[.slice a9 lu c9, .slice al (lu + 64) cl, .int .u8 67]) := fl.out.only ho (fun e => by have e' : _ = w17.heap.size := e; omega)
  replace f10 : Hid (By (fun q => W20.heap.size ≤ q ∧ q < w21.heap.size) (((((w21.setCell ⟨w17.heap.size, 0, none⟩ (.int .i64 (uX L (gd L 0)))).setCell ⟨w17.heap.size, 1, none⟩ (.int .i64 (uX L (gd L 1)))).setCell ⟨w17.heap.size, 2, none⟩ (.int .u32 (uX L (wd L 2)))).setCell ⟨w17.heap.size, 3, none⟩ (.int .u32 (uX L (wd L 6)))).setCell ⟨w17.heap.size, 4, none⟩ (.slice a10 lu c10)) (.slice a10 lu c10) (uD L)) := f10.out.keep (mv_only ho (fun q hq e => by have e' : _ = w17.heap.size := e; omega))
  replace fyb : Hid (Has (((((w21.setCell ⟨w17.heap.size, 0, none⟩ (.int .i64 (uX L (gd L 0)))).setCell ⟨w17.heap.size, 1, none⟩ (.int .i64 (uX L (gd L 1)))).setCell ⟨w17.heap.size, 2, none⟩ (.int .u32 (uX L (wd L 2)))).setCell ⟨w17.heap.size, 3, none⟩ (.int .u32 (uX L (wd L 6)))).setCell ⟨w17.heap.size, 4, none⟩ (.slice a10 lu c10)) (w17.heap.size) #[.int .i64 (uX L (gd L 0)), .int .i64 (uX L (gd L 1)), .int .u32 (uX L (wd L 2)), .int .u32 (uX L (wd L 6)), .slice a10 lu c10]) := fyb.out.set5 (.int .i64 (uX L (gd L 0))) (.int .i64 (uX L (gd L 1))) (.int .u32 (uX L (wd L 2))) (.int .u32 (uX L (wd L 6))) (.slice a10 lu c10)
  have zW21 := ho.size
  clear ho
  generalize (((((w21.setCell ⟨w17.heap.size, 0, none⟩ (.int .i64 (uX L (gd L 0)))).setCell ⟨w17.heap.size, 1, none⟩ (.int .i64 (uX L (gd L 1)))).setCell ⟨w17.heap.size, 2, none⟩ (.int .u32 (uX L (wd L 2)))).setCell ⟨w17.heap.size, 3, none⟩ (.int .u32 (uX L (wd L 6)))).setCell ⟨w17.heap.size, 4, none⟩ (.slice a10 lu c10)) = W21 at *
  have h8 := whole_any _ (fun q => q = g2) L lb vb cb g2 c2 W21 hL'.out fL.out hlb (own_by fo2.out rfl (by omega))
  go_upto_region 24 with (go_at_call 8; (with_reducible refine Calls.mono h8 ?_); clear h8; rintro e w22 ⟨rfl, hb22⟩)
  have zw22 := hb22.size
  replace fD : Hid (By (fun q => 0 ≤ q ∧ q < w.heap.size) w22 (.slice va l c) (D)) := fD.out.keep (Mv.below hb22)
  replace fL : Hid (By (fun q => 0 ≤ q ∧ q < w.heap.size) w22 (.slice vb lb cb) (L)) := fL.out.keep (Mv.below hb22)
  replace fm : Hid (Has w22 (w.heap.size) #[.int .i64 k, .int .i64 s, .int .u32 n, .int .u32 u, .slice va l c]) := fm.out.below hb22
  replace fb : Hid (Below w.heap.size w w22) := fb.out.trans (hb22.mono fb.out.size)
  replace f5 : Hid (By (fun q => W3.heap.size ≤ q ∧ q < w5.heap.size) w22 (.slice a5 lp c5) (pkL k s n u D)) := f5.out.keep (Mv.below hb22)
  replace fk1 : Hid (By (fun q => w5.heap.size ≤ q ∧ q < w6.heap.size) w22 (.slice a6 lp c6) (List.replicate lp 33)) := fk1.out.keep (Mv.below hb22)
  replace fk2 : Hid (By (fun q => (w5.heap.size ≤ q ∧ q < w6.heap.size) ∨ (w8.heap.size ≤ q ∧ q < w9.heap.size)) w22 (.slice ag (lp + 64) cg) (List.replicate lp 33 ++ List.replicate 64 (33 + 1))) := fk2.out.keep (Mv.below hb22)
  replace fk : Hid (Has w22 (w9.heap.size) #[.slice a6 lp c6, .slice ag (lp + 64) cg, .int .u8 33]) := fk.out.below hb22
  replace f7 : Hid (By (fun q => W9.heap.size ≤ q ∧ q < w10.heap.size) w22 (.slice a7 lp c7) (pkL k s n u D)) := f7.out.keep (Mv.below hb22)
  replace fo2 : Hid ((w22).ownsRow w13.heap.size 5 1 (.slice (some ⟨g2, 0, none⟩) (lb + 3) c2) (lb + 3) ((L ++ [11, 12, 13]).map bv)) := own_bel fo2.out hb22
  replace f8 : Hid (By (fun q => w15.heap.size ≤ q ∧ q < w16.heap.size) w22 (.slice a8 lu c8) (uD L)) := f8.out.keep (Mv.below hb22)
  replace fx : Hid (Has w22 (w16.heap.size) #[.int .i64 (uX L (gd L 0)), .int .i64 (uX L (gd L 1)), .int .u32 (uX L (wd L 2)), .int .u32 (uX L (wd L 6)), .slice a8 lu c8]) := fx.out.below hb22
  replace fl1 : Hid (By (fun q => W16.heap.size ≤ q ∧ q < w17.heap.size) w22 (.slice a9 lu c9) (List.replicate lu 67)) := fl1.out.keep (Mv.below hb22)
  replace fl2 : Hid (By (fun q => (W16.heap.size ≤ q ∧ q < w17.heap.size) ∨ (w19.heap.size ≤ q ∧ q < w20.heap.size)) w22 (.slice al (lu + 64) cl) (List.replicate lu 67 ++ List.replicate 64 (67 + 1))) := fl2.out.keep (Mv.below hb22)
  replace fl : Hid (Has w22 (w20.heap.size) #[.slice a9 lu c9, .slice al (lu + 64) cl, .int .u8 67]) := fl.out.below hb22
  replace f10 : Hid (By (fun q => W20.heap.size ≤ q ∧ q < w21.heap.size) w22 (.slice a10 lu c10) (uD L)) := f10.out.keep (Mv.below hb22)
  replace fyb : Hid (Has w22 (w17.heap.size) #[.int .i64 (uX L (gd L 0)), .int .i64 (uX L (gd L 1)), .int .u32 (uX L (wd L 2)), .int .u32 (uX L (wd L 6)), .slice a10 lu c10]) := fyb.out.below hb22
  clear hb22
  have h10 := blot_any g2 (lb + 3) c2 w22 (own_blots fo2.out (Nat.le_refl _)) (by omega)
  go_upto_region 25 with (go_at_call 10; (with_reducible refine Calls.mono h10 ?_); clear h10; rintro e w24 ⟨rfl, ho24⟩)
  clear fo2
  have zw24 := ho24.size
  replace fD : Hid (By (fun q => 0 ≤ q ∧ q < w.heap.size) w24 (.slice va l c) (D)) := fD.out.keep (mv_only ho24 (fun q hq e => by have e' : _ = g2 := e; omega))
  replace fL : Hid (By (fun q => 0 ≤ q ∧ q < w.heap.size) w24 (.slice vb lb cb) (L)) := fL.out.keep (mv_only ho24 (fun q hq e => by have e' : _ = g2 := e; omega))
  replace fm : Hid (Has w24 (w.heap.size) #[.int .i64 k, .int .i64 s, .int .u32 n, .int .u32 u, .slice va l c]) := fm.out.only ho24 (fun e => by have e' : _ = g2 := e; omega)
  replace fb : Hid (Below w.heap.size w w24) := only_bel fb.out ho24 (Nat.le_refl _) (fun q e => by have e' : _ = g2 := e; omega)
  replace f5 : Hid (By (fun q => W3.heap.size ≤ q ∧ q < w5.heap.size) w24 (.slice a5 lp c5) (pkL k s n u D)) := f5.out.keep (mv_only ho24 (fun q hq e => by have e' : _ = g2 := e; omega))
  replace fk1 : Hid (By (fun q => w5.heap.size ≤ q ∧ q < w6.heap.size) w24 (.slice a6 lp c6) (List.replicate lp 33)) := fk1.out.keep (mv_only ho24 (fun q hq e => by have e' : _ = g2 := e; omega))
  replace fk2 : Hid (By (fun q => (w5.heap.size ≤ q ∧ q < w6.heap.size) ∨ (w8.heap.size ≤ q ∧ q < w9.heap.size)) w24 (.slice ag (lp + 64) cg) (List.replicate lp 33 ++ List.replicate 64 (33 + 1))) := fk2.out.keep (mv_only ho24 (fun q hq e => by have e' : _ = g2 := e; omega))
  replace fk : Hid (Has w24 (w9.heap.size) #[.slice a6 lp c6, .slice ag (lp + 64) cg, .int .u8 33]) := fk.out.only ho24 (fun e => by have e' : _ = g2 := e; omega)
  replace f7 : Hid (By (fun q => W9.heap.size ≤ q ∧ q < w10.heap.size) w24 (.slice a7 lp c7) (pkL k s n u D)) := f7.out.keep (mv_only ho24 (fun q hq e => by have e' : _ = g2 := e; omega))
  replace f8 : Hid (By (fun q => w15.heap.size ≤ q ∧ q < w16.heap.size) w24 (.slice a8 lu c8) (uD L)) := f8.out.keep (mv_only ho24 (fun q hq e => by have e' : _ = g2 := e; omega))
  replace fx : Hid (Has w24 (w16.heap.size) #[.int .i64 (uX L (gd L 0)), .int .i64 (uX L (gd L 1)), .int .u32 (uX L (wd L 2)), .int .u32 (uX L (wd L 6)), .slice a8 lu c8]) := fx.out.only ho24 (fun e => by have e' : _ = g2 := e; omega)
  replace fl1 : Hid (By (fun q => W16.heap.size ≤ q ∧ q < w17.heap.size) w24 (.slice a9 lu c9) (List.replicate lu 67)) := fl1.out.keep (mv_only ho24 (fun q hq e => by have e' : _ = g2 := e; omega))
  replace fl2 : Hid (By (fun q => (W16.heap.size ≤ q ∧ q < w17.heap.size) ∨ (w19.heap.size ≤ q ∧ q < w20.heap.size)) w24 (.slice al (lu + 64) cl) (List.replicate lu 67 ++ List.replicate 64 (67 + 1))) := fl2.out.keep (mv_only ho24 (fun q hq e => by have e' : _ = g2 := e; omega))
  replace fl : Hid (Has w24 (w20.heap.size) #[.slice a9 lu c9, .slice al (lu + 64) cl, .int .u8 67]) := fl.out.only ho24 (fun e => by have e' : _ = g2 := e; omega)
  replace f10 : Hid (By (fun q => W20.heap.size ≤ q ∧ q < w21.heap.size) w24 (.slice a10 lu c10) (uD L)) := f10.out.keep (mv_only ho24 (fun q hq e => by have e' : _ = g2 := e; omega))
  replace fyb : Hid (Has w24 (w17.heap.size) #[.int .i64 (uX L (gd L 0)), .int .i64 (uX L (gd L 1)), .int .u32 (uX L (wd L 2)), .int .u32 (uX L (wd L 6)), .slice a10 lu c10]) := fyb.out.only ho24 (fun e => by have e' : _ = g2 := e; omega)
  clear ho24
  have x0 := fx.out.2.1 0
  have x1 := fx.out.2.1 1
  have x2 := fx.out.2.1 2
  have x3 := fx.out.2.1 3
  have x4 := fx.out.2.1 4
  have y0 := fyb.out.2.1 0
  have y1 := fyb.out.2.1 1
  have y2 := fyb.out.2.1 2
  have y3 := fyb.out.2.1 3
  have y4 := fyb.out.2.1 4
  have h13 := wireMsg_any _ _ (uD L) lu (uX L (gd L 0)) (uX L (gd L 1)) (uX L (wd L 2)) (uX L (wd L 6)) a8 a10 c8 c10 w24 hlu'.out f8.out f10.out (by omega)
  go_wp2_with (first | (go_at_call 13; (with_reducible refine Calls.mono h13 ?_); clear h13; rintro e w25 ⟨rfl, hb25⟩; replace fD : Hid (By (fun q => 0 ≤ q ∧ q < w.heap.size) w25 (.slice va l c) (D)) := fD.out.keep (Mv.below hb25); replace fL : Hid (By (fun q => 0 ≤ q ∧ q < w.heap.size) w25 (.slice vb lb cb) (L)) := fL.out.keep (Mv.below hb25); replace fm : Hid (Has w25 (w.heap.size) #[.int .i64 k, .int .i64 s, .int .u32 n, .int .u32 u, .slice va l c]) := fm.out.below hb25; replace fb : Hid (Below w.heap.size w w25) := fb.out.trans (hb25.mono fb.out.size); replace f5 : Hid (By (fun q => W3.heap.size ≤ q ∧ q < w5.heap.size) w25 (.slice a5 lp c5) (pkL k s n u D)) := f5.out.keep (Mv.below hb25); replace fk1 : Hid (By (fun q => w5.heap.size ≤ q ∧ q < w6.heap.size) w25 (.slice a6 lp c6) (List.replicate lp 33)) := fk1.out.keep (Mv.below hb25); replace fk2 : Hid (By (fun q => (w5.heap.size ≤ q ∧ q < w6.heap.size) ∨ (w8.heap.size ≤ q ∧ q < w9.heap.size)) w25 (.slice ag (lp + 64) cg) (List.replicate lp 33 ++ List.replicate 64 (33 + 1))) := fk2.out.keep (Mv.below hb25); replace fk : Hid (Has w25 (w9.heap.size) #[.slice a6 lp c6, .slice ag (lp + 64) cg, .int .u8 33]) := fk.out.below hb25; replace f7 : Hid (By (fun q => W9.heap.size ≤ q ∧ q < w10.heap.size) w25 (.slice a7 lp c7) (pkL k s n u D)) := f7.out.keep (Mv.below hb25); replace f8 : Hid (By (fun q => w15.heap.size ≤ q ∧ q < w16.heap.size) w25 (.slice a8 lu c8) (uD L)) := f8.out.keep (Mv.below hb25); replace fx : Hid (Has w25 (w16.heap.size) #[.int .i64 (uX L (gd L 0)), .int .i64 (uX L (gd L 1)), .int .u32 (uX L (wd L 2)), .int .u32 (uX L (wd L 6)), .slice a8 lu c8]) := fx.out.below hb25; replace fl1 : Hid (By (fun q => W16.heap.size ≤ q ∧ q < w17.heap.size) w25 (.slice a9 lu c9) (List.replicate lu 67)) := fl1.out.keep (Mv.below hb25); replace fl2 : Hid (By (fun q => (W16.heap.size ≤ q ∧ q < w17.heap.size) ∨ (w19.heap.size ≤ q ∧ q < w20.heap.size)) w25 (.slice al (lu + 64) cl) (List.replicate lu 67 ++ List.replicate 64 (67 + 1))) := fl2.out.keep (Mv.below hb25); replace fl : Hid (Has w25 (w20.heap.size) #[.slice a9 lu c9, .slice al (lu + 64) cl, .int .u8 67]) := fl.out.below hb25; replace f10 : Hid (By (fun q => W20.heap.size ≤ q ∧ q < w21.heap.size) w25 (.slice a10 lu c10) (uD L)) := f10.out.keep (Mv.below hb25); replace fyb : Hid (Has w25 (w17.heap.size) #[.int .i64 (uX L (gd L 0)), .int .i64 (uX L (gd L 1)), .int .u32 (uX L (wd L 2)), .int .u32 (uX L (wd L 6)), .slice a10 lu c10]) := fyb.out.below hb25; clear hb25; have p0 := fk.out.2.1 0; have p1 := fk.out.2.1 1; have p2 := fk.out.2.1 2; have h14 := stands_any _ _ lp 33 a6 ag c6 cg w25 fk1.out fk2.out (by decide) (by omega)) | (go_at_call 14; (with_reducible refine Calls.mono h14 ?_); clear h14; rintro e w26 ⟨rfl, hb26⟩; replace fD : Hid (By (fun q => 0 ≤ q ∧ q < w.heap.size) w26 (.slice va l c) (D)) := fD.out.keep (Mv.below hb26); replace fL : Hid (By (fun q => 0 ≤ q ∧ q < w.heap.size) w26 (.slice vb lb cb) (L)) := fL.out.keep (Mv.below hb26); replace fm : Hid (Has w26 (w.heap.size) #[.int .i64 k, .int .i64 s, .int .u32 n, .int .u32 u, .slice va l c]) := fm.out.below hb26; replace fb : Hid (Below w.heap.size w w26) := fb.out.trans (hb26.mono fb.out.size); replace f5 : Hid (By (fun q => W3.heap.size ≤ q ∧ q < w5.heap.size) w26 (.slice a5 lp c5) (pkL k s n u D)) := f5.out.keep (Mv.below hb26); replace fk1 : Hid (By (fun q => w5.heap.size ≤ q ∧ q < w6.heap.size) w26 (.slice a6 lp c6) (List.replicate lp 33)) := fk1.out.keep (Mv.below hb26); replace fk2 : Hid (By (fun q => (w5.heap.size ≤ q ∧ q < w6.heap.size) ∨ (w8.heap.size ≤ q ∧ q < w9.heap.size)) w26 (.slice ag (lp + 64) cg) (List.replicate lp 33 ++ List.replicate 64 (33 + 1))) := fk2.out.keep (Mv.below hb26); replace fk : Hid (Has w26 (w9.heap.size) #[.slice a6 lp c6, .slice ag (lp + 64) cg, .int .u8 33]) := fk.out.below hb26; replace f7 : Hid (By (fun q => W9.heap.size ≤ q ∧ q < w10.heap.size) w26 (.slice a7 lp c7) (pkL k s n u D)) := f7.out.keep (Mv.below hb26); replace f8 : Hid (By (fun q => w15.heap.size ≤ q ∧ q < w16.heap.size) w26 (.slice a8 lu c8) (uD L)) := f8.out.keep (Mv.below hb26); replace fx : Hid (Has w26 (w16.heap.size) #[.int .i64 (uX L (gd L 0)), .int .i64 (uX L (gd L 1)), .int .u32 (uX L (wd L 2)), .int .u32 (uX L (wd L 6)), .slice a8 lu c8]) := fx.out.below hb26; replace fl1 : Hid (By (fun q => W16.heap.size ≤ q ∧ q < w17.heap.size) w26 (.slice a9 lu c9) (List.replicate lu 67)) := fl1.out.keep (Mv.below hb26); replace fl2 : Hid (By (fun q => (W16.heap.size ≤ q ∧ q < w17.heap.size) ∨ (w19.heap.size ≤ q ∧ q < w20.heap.size)) w26 (.slice al (lu + 64) cl) (List.replicate lu 67 ++ List.replicate 64 (67 + 1))) := fl2.out.keep (Mv.below hb26); replace fl : Hid (Has w26 (w20.heap.size) #[.slice a9 lu c9, .slice al (lu + 64) cl, .int .u8 67]) := fl.out.below hb26; replace f10 : Hid (By (fun q => W20.heap.size ≤ q ∧ q < w21.heap.size) w26 (.slice a10 lu c10) (uD L)) := f10.out.keep (Mv.below hb26); replace fyb : Hid (Has w26 (w17.heap.size) #[.int .i64 (uX L (gd L 0)), .int .i64 (uX L (gd L 1)), .int .u32 (uX L (wd L 2)), .int .u32 (uX L (wd L 6)), .slice a10 lu c10]) := fyb.out.below hb26; clear hb26; have r0 := fl.out.2.1 0; have r1 := fl.out.2.1 1; have r2 := fl.out.2.1 2; have h14b := stands_any _ _ lu 67 a9 al c9 cl w26 fl1.out fl2.out (by decide) (by omega)) | (go_at_call 14; (with_reducible refine Calls.mono h14b ?_); clear h14b; rintro e w27 ⟨rfl, hb27⟩; replace fD : Hid (By (fun q => 0 ≤ q ∧ q < w.heap.size) w27 (.slice va l c) (D)) := fD.out.keep (Mv.below hb27); replace fL : Hid (By (fun q => 0 ≤ q ∧ q < w.heap.size) w27 (.slice vb lb cb) (L)) := fL.out.keep (Mv.below hb27); replace fm : Hid (Has w27 (w.heap.size) #[.int .i64 k, .int .i64 s, .int .u32 n, .int .u32 u, .slice va l c]) := fm.out.below hb27; replace fb : Hid (Below w.heap.size w w27) := fb.out.trans (hb27.mono fb.out.size); replace f5 : Hid (By (fun q => W3.heap.size ≤ q ∧ q < w5.heap.size) w27 (.slice a5 lp c5) (pkL k s n u D)) := f5.out.keep (Mv.below hb27); replace fk1 : Hid (By (fun q => w5.heap.size ≤ q ∧ q < w6.heap.size) w27 (.slice a6 lp c6) (List.replicate lp 33)) := fk1.out.keep (Mv.below hb27); replace fk2 : Hid (By (fun q => (w5.heap.size ≤ q ∧ q < w6.heap.size) ∨ (w8.heap.size ≤ q ∧ q < w9.heap.size)) w27 (.slice ag (lp + 64) cg) (List.replicate lp 33 ++ List.replicate 64 (33 + 1))) := fk2.out.keep (Mv.below hb27); replace fk : Hid (Has w27 (w9.heap.size) #[.slice a6 lp c6, .slice ag (lp + 64) cg, .int .u8 33]) := fk.out.below hb27; replace f7 : Hid (By (fun q => W9.heap.size ≤ q ∧ q < w10.heap.size) w27 (.slice a7 lp c7) (pkL k s n u D)) := f7.out.keep (Mv.below hb27); replace f8 : Hid (By (fun q => w15.heap.size ≤ q ∧ q < w16.heap.size) w27 (.slice a8 lu c8) (uD L)) := f8.out.keep (Mv.below hb27); replace fx : Hid (Has w27 (w16.heap.size) #[.int .i64 (uX L (gd L 0)), .int .i64 (uX L (gd L 1)), .int .u32 (uX L (wd L 2)), .int .u32 (uX L (wd L 6)), .slice a8 lu c8]) := fx.out.below hb27; replace fl1 : Hid (By (fun q => W16.heap.size ≤ q ∧ q < w17.heap.size) w27 (.slice a9 lu c9) (List.replicate lu 67)) := fl1.out.keep (Mv.below hb27); replace fl2 : Hid (By (fun q => (W16.heap.size ≤ q ∧ q < w17.heap.size) ∨ (w19.heap.size ≤ q ∧ q < w20.heap.size)) w27 (.slice al (lu + 64) cl) (List.replicate lu 67 ++ List.replicate 64 (67 + 1))) := fl2.out.keep (Mv.below hb27); replace fl : Hid (Has w27 (w20.heap.size) #[.slice a9 lu c9, .slice al (lu + 64) cl, .int .u8 67]) := fl.out.below hb27; replace f10 : Hid (By (fun q => W20.heap.size ≤ q ∧ q < w21.heap.size) w27 (.slice a10 lu c10) (uD L)) := f10.out.keep (Mv.below hb27); replace fyb : Hid (Has w27 (w17.heap.size) #[.int .i64 (uX L (gd L 0)), .int .i64 (uX L (gd L 1)), .int .u32 (uX L (wd L 2)), .int .u32 (uX L (wd L 6)), .slice a10 lu c10]) := fyb.out.below hb27; clear hb27; have h7 := bytes_any _ _ _ lp a7 a5 c7 c5 w27 hlp'.out f7.out f5.out (by omega)) | (go_at_call 7; (with_reducible refine Calls.mono h7 ?_); clear h7; rintro e w28 ⟨rfl, hb28⟩))
  go_ret
  exact ⟨by first | rfl | simp, fb.out.trans (hb28.mono fb.out.size)⟩
end Go.Proofs.Ytahheagfgfpdmaa
