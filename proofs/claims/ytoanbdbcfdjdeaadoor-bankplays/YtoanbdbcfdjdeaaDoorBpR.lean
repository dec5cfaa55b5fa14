import Derived.Test.YtoanbdbcfdjdeaaDoorBpQ
namespace Go.Proofs.YtoanbdbcfdjdeaaDoor
open Go.RowKit
set_option linter.unusedVariables false
set_option linter.unusedSimpArgs false


theorem bx {a b c : World} (h : Below a.heap.size a b) (k : Below b.heap.size b c) : Below a.heap.size a c := h.trans (k.mono h.size)
set_option maxRecDepth 100000 in
set_option maxHeartbeats 2000000 in
theorem plays_law {B : Nat} {ea : Nat → Addr} (s : Int) (F : List Int) (A : List Ac) (va : Option Addr) (c : Nat) (v : Value) (n t : Int) (w : World) (hE : Er B w ea) (hB : By (fun q => q < w.heap.size) w (.slice va F.length c) F) (hA : Acs (fun q => q < w.heap.size) w v A) (hl : F.length ≤ 140737488355000)
    (hs1 : -9223372036854775808 ≤ s) (hs2 : s ≤ 9223372036854775807) (hn1 : -9223372036854775808 ≤ n) (hn2 : n ≤ 9223372036854775807) :
    Calls Tryd.prog 3 #[.int .i64 s, .slice va F.length c, v, .int .i64 n, .int .u8 t] w fun e w' => e = .returned (.bool true) ∧ Below w.heap.size w w' := by
  have h4 := fun (X : World) (hX : Below w.heap.size w X) => blank4 s X (hE.below hX) hs1 hs2
  have h5 := fun (X : World) => blank5 s X hs1 hs2
  have h6 := fun (X : World) (hX : Below w.heap.size w X) => roomy_any (fun q => q < w.heap.size) F va c X (hB.keep (Mv.below hX)) hl
  have h7 := fun (X : World) (hX : Below w.heap.size w X) => copyActs_any (fun q => q < w.heap.size) A v X (hA.keep (Mv.below hX)) (fun q hq => Nat.lt_of_lt_of_le hq hX.size)
  have h8 := fun (S : Nat → Prop) (gf cf : Nat) (vg : Value) (m : Int) (X : World) (hX : Below w.heap.size w X) (fg : FG S gf cf F vg A X) (hS : ∀ q, S q → q < X.heap.size) (h1 : -9223372036854775808 ≤ m) (h2 : m ≤ 9223372036854775807) => play8 S F A (some ⟨gf, 0, none⟩) cf vg m t X (hE.below hX) fg.head fg.acts hS h1 h2
  have h9 := fun (m : Int) (X : World) (hX : Below w.heap.size w X) (h2 : m ≤ 9223372036854775807) => play9 (fun q => q < w.heap.size) F A va c v m t X (hB.keep (Mv.below hX)) (hA.keep (Mv.below hX)) (fun q hq => Nat.lt_of_lt_of_le hq hX.size) h2
  have h11 := fun (X : World) (hX : Below w.heap.size w X) => rsteps_all (fun q => q < w.heap.size) A v X (hA.keep (Mv.below hX))
  have h13 := fun (S : Nat → Prop) (gf cf : Nat) (vg : Value) (X : World) (hX : Below w.heap.size w X) (fg : FG S gf cf F vg A X) => kept_any (fun q => q < w.heap.size) S F va c (.slice (some ⟨gf, 0, none⟩) (F.length + 2) cf) X (hB.keep (Mv.below hX)) hl fg.full
  have h14 := fun (S : Nat → Prop) (gf cf : Nat) (vg : Value) (X : World) (hX : Below w.heap.size w X) (fg : FG S gf cf F vg A X) => acts_any S (fun q => q < w.heap.size) A vg v X fg.acts (hA.keep (Mv.below hX))
  have h10 := fun (S : Nat → Prop) (gf cf : Nat) (vg : Value) (X : World) (fg : FG S gf cf F vg A X) => steps_all S A vg X fg.acts
  have wI := wrap_in (n + 1)
  clear hE hB hA
  have lb := blL_le s
  have ld := ansL_le F A n t
  have ld3 := ansL_le F A (RowKit.wrap64 (n + 1)) t
  generalize hbl : blL s = bl at *
  generalize hbe : blE s = be at *
  generalize hae : ansE F.length A = ae at *
  generalize hss : ssF 0 A = ss at *
  clear hbl hbe hae hss
  go_enter Tryd.func3, Tryd.ntmps3
  go_upto_region 2 with (go_at_call 4; (with_reducible refine Calls.mono (h4 _ (Below.refl _ _)) ?_); rintro e w1 ⟨⟨vb, rfl, ob⟩, b1⟩)
  go_upto_region 3 with (go_at_call 5; (with_reducible refine Calls.mono (h5 _) ?_); rintro e w2 ⟨⟨vc, rfl, oc⟩, b2⟩)
  have ib := ob.lt
  have X2 : Below w.heap.size w w2 := b1.trans (b2.mono b1.size)
  have cb := (ob.below b2).str
  have cc := oc.str
  go_upto_region 5 with fail
  go_upto_region 6 with (go_at_call 6; (with_reducible refine Calls.mono (h6 _ X2) ?_); rintro e w3 ⟨⟨gf, cf, rfl, hgf, owf⟩, b3⟩)
  have X3 : Below w.heap.size w w3 := X2.trans (b3.mono X2.size)
  go_upto_region 7 with (go_at_call 7; (with_reducible refine Calls.mono (h7 _ X3) ?_); rintro e w4 ⟨⟨vg, rfl, ag⟩, b4⟩)
  have X4 : Below w.heap.size w w4 := X3.trans (b4.mono X3.size)
  have z1 := b1.size
  have z2 := b2.size
  have z3 := b3.size
  have z4 := b4.size
  have hcf : F.length ≤ cf := by have := (own_at owf).2.2.2.1; omega
  have fg4 : FG (fun q => w2.heap.size ≤ q ∧ q < w4.heap.size) gf cf F vg A w4 := FG.of_own (own_bel owf b4) ⟨hgf, by have := (own_at owf).1; omega⟩ hl (ag.keep (Mv.weak (fun q _ hq => ⟨by omega, hq.2⟩)))
  clear owf ag
  have hsl := fun (W : World) => slice_to W gf (F.length + 2) cf F.length hcf
  go_upto_region 8 with (go_at_call 8; (with_reducible refine Calls.mono (h8 _ gf cf vg n _ X4 fg4 (fun q hq => hq.2) hn1 hn2) ?_); rintro e w5 ⟨⟨vd, rfl, od⟩, b5⟩)
  have X5 : Below w.heap.size w w5 := X4.trans (b5.mono X4.size)
  have fg5 := fg4.mv (Mv.below b5)
  have z5 := b5.size
  clear fg4
  go_upto_region 9 with (go_at_call 9; (with_reducible refine Calls.mono (h9 n _ X5 hn2) ?_); rintro e w6 ⟨⟨vr, rfl, og⟩, b6⟩)
  have X6 : Below w.heap.size w w6 := X5.trans (b6.mono X5.size)
  have fg6 := fg5.mv (Mv.below b6)
  have z6 := b6.size
  clear fg5
  have cd := (od.below b6).str
  have cg := og.str
  go_upto_region 11 with (first | (go_at_call 10; (with_reducible refine Calls.mono (h10 _ gf cf vg _ fg6) ?_); rintro e w7 ⟨rfl, b7⟩) | (go_at_call 11; (with_reducible refine Calls.mono (h11 _ (X6.trans (b7.mono X6.size))) ?_); rintro e w7x ⟨rfl, hw7⟩; subst hw7))
  have X7 := X6.trans (b7.mono X6.size)
  have fg7 := fg6.mv (Mv.below b7)
  have z7 := b7.size
  clear fg6 cd cg cb cc
  go_upto_region 12 with (go_at_call 4; (with_reducible refine Calls.mono (h4 _ X7) ?_); rintro e w8 ⟨⟨vb2, rfl, ob2⟩, b8⟩)
  have X8 := X7.trans (b8.mono X7.size)
  have fg8 := fg7.mv (Mv.below b8)
  have z8 := b8.size
  clear fg7
  go_upto_region 13 with (go_at_call 8; (with_reducible refine Calls.mono (h8 _ gf cf vg n _ X8 fg8 (fun q hq => by have := hq.2; omega) hn1 hn2) ?_); rintro e w9 ⟨⟨vd2, rfl, od2⟩, b9⟩)
  have X9 := X8.trans (b9.mono X8.size)
  have fg9 := fg8.mv (Mv.below b9)
  have z9 := b9.size
  clear fg8
  go_upto_region 14 with (go_at_call 8; (with_reducible refine Calls.mono (h8 _ gf cf vg (RowKit.wrap64 (n + 1)) _ X9 fg9 (fun q hq => by have := hq.2; omega) wI.1 wI.2) ?_); rintro e w10 ⟨⟨vd3, rfl, od3⟩, b10⟩)
  have X10 := X9.trans (b10.mono X9.size)
  have fg10 := fg9.mv (Mv.below b10)
  have z10 := b10.size
  clear fg9
  go_upto_region 15 with (go_at_call 9; (with_reducible refine Calls.mono (h9 (RowKit.wrap64 (n + 1)) _ X10 wI.2) ?_); rintro e w11 ⟨⟨vr3, rfl, og3⟩, b11⟩)
  have X11 := X10.trans (b11.mono X10.size)
  have fg11 := fg10.mv (Mv.below b11)
  have z11 := b11.size
  clear fg10
  have id := od.lt
  have ib2 := ob2.lt
  have id2 := od2.lt
  have id3 := od3.lt
  have ir := og.lt
  have D10 := b11
  have D9 := bx b10 D10
  have D8 := bx b9 D9
  have D7 := bx b8 D8
  have D6 := bx b7 D7
  have D5 := bx b6 D6
  have D4 := bx b5 D5
  have D3 := bx b4 D4
  have D2 := bx b3 D3
  have D1 := bx b2 D2
  have fb : Ob 0 w11 vb bl := (ob.below D1).mono (Nat.zero_le _)
  have fd : Ob 0 w11 vd (ansL F A n t) := (od.below D5).mono (Nat.zero_le _)
  have fb2 : Ob 0 w11 vb2 bl := (ob2.below D8).mono (Nat.zero_le _)
  have fd2 : Ob 0 w11 vd2 (ansL F A n t) := (od2.below D9).mono (Nat.zero_le _)
  have fd3 : Ob 0 w11 vd3 (ansL F A (RowKit.wrap64 (n + 1)) t) := (od3.below D10).mono (Nat.zero_le _)
  have fr : Ob 0 w11 vr (ansL F A n t) := (og.below D6).mono (Nat.zero_le _)
  have fc : Ob 0 w11 vc bl := (oc.below D2).mono (Nat.zero_le _)
  have cd2 := fd2.str
  have cr := fr.str
  have cd3 := fd3.str
  have cr3 := og3.str
  have cb2 := fb2.str
  have cc := fc.str
  clear ob od ob2 od2 od3 og og3 oc
  go_upto_region 17 with fail
  clear cd2 cr cd3 cr3 cb2 cc
  obtain ⟨a1, q1, rfl⟩ := fb.form
  obtain ⟨a2, q2, rfl⟩ := fb2.form
  obtain ⟨a3, q3, rfl⟩ := fd.form
  obtain ⟨a4, q4, rfl⟩ := fd2.form
  obtain ⟨a5, q5, rfl⟩ := fd3.form
  have bN := belN1 (w := w11) (o1 := .cells #[(.slice a1 bl.length q1), (.slice a2 bl.length q2), (.slice a3 (ansL F A n t).length q3), (.slice a4 (ansL F A n t).length q4), (.slice a5 (ansL F A (RowKit.wrap64 (n + 1)) t).length q5)] 22)
  have hAp : Ap 5 (U5 (.slice a1 bl.length q1) (.slice a2 bl.length q2) (.slice a3 (ansL F A n t).length q3) (.slice a4 (ansL F A n t).length q4) (.slice a5 (ansL F A (RowKit.wrap64 (n + 1)) t).length q5)) w11.heap.size (w11.alloc (.cells #[(.slice a1 bl.length q1), (.slice a2 bl.length q2), (.slice a3 (ansL F A n t).length q3), (.slice a4 (ansL F A n t).length q4), (.slice a5 (ansL F A (RowKit.wrap64 (n + 1)) t).length q5)] 22)).heap.size := by
    have hz : (w11.alloc (.cells #[(.slice a1 bl.length q1), (.slice a2 bl.length q2), (.slice a3 (ansL F A n t).length q3), (.slice a4 (ansL F A n t).length q4), (.slice a5 (ansL F A (RowKit.wrap64 (n + 1)) t).length q5)] 22)).heap.size = w11.heap.size + 1 := by simp
    rw [hz]
    exact ap5 (k0 := w.heap.size) (k1 := w1.heap.size) (k2 := w4.heap.size) (k3 := w5.heap.size) (k5 := w8.heap.size) (k6 := w9.heap.size) (k7 := w10.heap.size) ib id ib2 id2 id3 (by omega) (by omega) (by omega) (by omega) (by omega) (by omega) fb.off fb2.off fd.off fd2.off fd3.off (by omega) (by omega)
  have HX := Has.new w11 #[(.slice a1 bl.length q1), (.slice a2 bl.length q2), (.slice a3 (ansL F A n t).length q3), (.slice a4 (ansL F A n t).length q4), (.slice a5 (ansL F A (RowKit.wrap64 (n + 1)) t).length q5)] 22 rfl
  have h12 := apart_any 5 (U5 (.slice a1 bl.length q1) (.slice a2 bl.length q2) (.slice a3 (ansL F A n t).length q3) (.slice a4 (ansL F A n t).length q4) (.slice a5 (ansL F A (RowKit.wrap64 (n + 1)) t).length q5)) (L5 bl bl (ansL F A n t) (ansL F A n t) (ansL F A (RowKit.wrap64 (n + 1)) t)) w11.heap.size 0 5 (w11.alloc (.cells #[(.slice a1 bl.length q1), (.slice a2 bl.length q2), (.slice a3 (ansL F A n t).length q3), (.slice a4 (ansL F A n t).length q4), (.slice a5 (ansL F A (RowKit.wrap64 (n + 1)) t).length q5)] 22)) (by decide) (by decide) hAp (five (HX.2.1 0) (HX.2.1 1) (HX.2.1 2) (HX.2.1 3) (HX.2.1 4)) (five (fb.below bN) (fb2.below bN) (fd.below bN) (fd2.below bN) (fd3.below bN)) (five lb lb ld ld ld3)
  have hPu : ∀ q, Pu 5 (U5 (.slice a1 bl.length q1) (.slice a2 bl.length q2) (.slice a3 (ansL F A n t).length q3) (.slice a4 (ansL F A n t).length q4) (.slice a5 (ansL F A (RowKit.wrap64 (n + 1)) t).length q5)) q → (w.heap.size ≤ q ∧ q < w1.heap.size) ∨ (w4.heap.size ≤ q ∧ q < w5.heap.size) ∨ w6.heap.size ≤ q := by
    rintro q ⟨j, hj, hq⟩
    revert hq
    exact five (P := fun j => (U5 (.slice a1 bl.length q1) (.slice a2 bl.length q2) (.slice a3 (ansL F A n t).length q3) (.slice a4 (ansL F A n t).length q4) (.slice a5 (ansL F A (RowKit.wrap64 (n + 1)) t).length q5) j).ownBlock = some q → (w.heap.size ≤ q ∧ q < w1.heap.size) ∨ (w4.heap.size ≤ q ∧ q < w5.heap.size) ∨ w6.heap.size ≤ q) (fun h => .inl (ib q h)) (fun h => .inr (.inr (by have := ib2 q h; omega))) (fun h => .inr (.inl (id q h))) (fun h => .inr (.inr (by have := id2 q h; omega))) (fun h => .inr (.inr (by have := id3 q h; omega))) j hj
  have fgN := fg11.mv (Mv.below bN)
  have frN := fr.below bN
  have XN := bx X11 bN
  have zN := bN.size
  clear HX fb fb2 fd fd2 fd3 fr fc fg11 bN hAp
  generalize hW : w11.alloc (.cells #[(.slice a1 bl.length q1), (.slice a2 bl.length q2), (.slice a3 (ansL F A n t).length q3), (.slice a4 (ansL F A n t).length q4), (.slice a5 (ansL F A (RowKit.wrap64 (n + 1)) t).length q5)] 22) = W at *
  go_upto_region 19 with (go_at_call 12; (with_reducible refine Calls.mono (h12) ?_); rintro e w12 ⟨rfl, o12⟩)
  have X12 : Below w.heap.size w w12 := only_bel XN o12 (Nat.le_refl _) (fun k hk => by have := hPu k hk; omega)
  have fg12 := fgN.mv (mv_only o12 (fun q hq hp => by have := hPu q hp; omega))
  have fr12 := frN.only o12 (fun q hq hp => by have := hPu q hp; have := ir q hq; omega)
  have z12 := o12.size
  clear fgN frN
  go_upto_region 20 with (go_at_call 8; (with_reducible refine Calls.mono (h8 _ gf cf vg n _ X12 fg12 (fun q hq => by have := hq.2; have := XN.size; omega) hn1 hn2) ?_); rintro e w13 ⟨⟨vd4, rfl, od4⟩, b13⟩)
  have X13 := bx X12 b13
  have fg13 := fg12.mv (Mv.below b13)
  have cd4 := od4.str
  have cr4 := (fr12.below b13).str
  go_wp2_with (first | (go_at_call 13; (with_reducible refine Calls.mono (h13 _ gf cf vg _ X13 fg13) ?_); rintro e w14 ⟨rfl, b14⟩) | (go_at_call 14; (with_reducible refine Calls.mono (h14 _ gf cf vg _ (bx X13 b14) (fg13.mv (Mv.below b14))) ?_); rintro e w15 ⟨rfl, b15⟩))
  go_ret
  exact ⟨by first | rfl | simp, bx (bx X13 b14) b15⟩
end Go.Proofs.YtoanbdbcfdjdeaaDoor
