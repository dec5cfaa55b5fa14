import Derived.Test.YtddphepgcihdbaaTvB
namespace Go.Proofs.Ytddphepgcihdbaa
open Go.RowKit Go.Shelf
set_option linter.unusedVariables false
set_option linter.unusedSimpArgs false

attribute [local go_sem] Oper.semAt_some
theorem Only.toBelow {Z : Nat} {U : Nat → Prop} {a b : World} (h : Only (It Z U) a b) (hz : Z ≤ a.heap.size) : Below Z a b := ⟨h.os, h.tape, h.output, h.size, fun k hk => h.block k (by omega) (fun x => by have := x.1; omega)⟩
theorem Only.itZ {S U : Nat → Prop} {a w w' : World} {Z : Nat} (h : Only S a w) (hb : Only (It Z U) w w') (hZ : a.heap.size ≤ Z) : Only S a w' :=
  ⟨hb.os.trans h.os, hb.tape.trans h.tape, hb.output.trans h.output, Nat.le_trans h.size hb.size, fun k hk hn => (hb.block k (by have := h.size; omega) (fun x => by have := x.1; omega)).trans (h.block k hk hn)⟩
theorem Gr.more {U U' : Nat → Prop} {a b c : World} (h : Gr U U' a b) (hz : b.heap.size ≤ c.heap.size) : Gr U U' a c := fun k hk => ⟨(h k hk).1, by have := (h k hk).2; omega⟩
structure ChSv (S : Nat → Prop) (w1 : World) (B bt bb ba : Nat) (b a : Int) (tc : Array Value) (y : Nat) (vH : Value) (w : World) : Prop where
  ht : Has w bt tc
  hb : Has w bb #[.int .i64 b]
  ha : Has w ba #[.int .i64 a]
  hy : Has w B #[.func (.yield y) #[] #[]]
  hh : Has w (B + 1) #[vH]
  bel : Bs S w1 w
  hz : B + 2 ≤ w.heap.size
theorem ChSv.below {S : Nat → Prop} {w1 : World} {B bt bb ba : Nat} {b a : Int} {tc : Array Value} {y : Nat} {vH : Value} {w w' : World} (h : ChSv S w1 B bt bb ba b a tc y vH w) {Z : Nat} (hb : Below Z w w') (hZ : B + 2 ≤ Z) (h1 : w1.heap.size ≤ Z) (h2 : bt < Z) (h3 : bb < Z) (h4 : ba < Z) : ChSv S w1 B bt bb ba b a tc y vH w' :=
  ⟨h.ht.blk hb.size (hb.block _ h2), h.hb.blk hb.size (hb.block _ h3), h.ha.blk hb.size (hb.block _ h4), h.hy.blk hb.size (hb.block _ (by omega)), h.hh.blk hb.size (hb.block _ (by omega)), h.bel.belZ hb h1, Nat.le_trans h.hz hb.size⟩
theorem ChSv.onlyU {S : Nat → Prop} {w1 : World} {B bt bb ba : Nat} {b a : Int} {tc : Array Value} {y : Nat} {vH : Value} {w w' : World} {U : Nat → Prop} (h : ChSv S w1 B bt bb ba b a tc y vH w) (hb : Only (Tu B (ChRv S bt bb ba) U) w w') (hN : NU (fun k => ChRv S bt bb ba k ∨ (B ≤ k ∧ k < B + 2)) U) : ChSv S w1 B bt bb ba b a tc y vH w' := by
  have hN1 : NU (ChRv S bt bb ba) U := fun k hk => hN k (.inl hk)
  have hN2 : ∀ k, B ≤ k → k < B + 2 → ¬ Tu B (ChRv S bt bb ba) U k := fun k h1 h2 x => x.elim (fun x => by have := x.1; omega) (hN k (.inr ⟨h1, h2⟩))
  exact ⟨h.ht.only hb (nTu (.inr (.inl rfl)) hN1), h.hb.only hb (nTu (.inr (.inr (.inl rfl))) hN1), h.ha.only hb (nTu (.inr (.inr (.inr rfl))) hN1), h.hy.only hb (hN2 _ (by omega) (by omega)), h.hh.only hb (hN2 _ (by omega) (by omega)),
    h.bel.only hb (fun k hk => nTu (.inl hk) hN1), Nat.le_trans h.hz hb.size⟩
theorem ChSv.belowI {S : Nat → Prop} {w1 : World} {B bt bb ba : Nat} {b a : Int} {tc : Array Value} {y : Nat} {vH : Value} {w w' : World} {U : Nat → Prop} {Z : Nat} (h : ChSv S w1 B bt bb ba b a tc y vH w) (hb : Only (It Z U) w w') (h1 : B + 2 ≤ Z) (h2 : bt < Z) (h3 : bb < Z) (h4 : ba < Z) (h5 : w1.heap.size ≤ Z) : ChSv S w1 B bt bb ba b a tc y vH w' := by
  have hk : ∀ k, k < Z → ¬ It Z U k := fun k h x => by have := x.1; omega
  exact ⟨h.ht.only hb (hk _ h2), h.hb.only hb (hk _ h3), h.ha.only hb (hk _ h4), h.hy.only hb (hk _ (by omega)), h.hh.only hb (hk _ (by omega)),
    h.bel.only hb (fun k hk2 => hk _ (by have := h.bel.lt k hk2; omega)), Nat.le_trans h.hz hb.size⟩

set_option maxRecDepth 100000 in
set_option maxHeartbeats 8000000 in
theorem ch1_v (n : Nat) (t : Tt) (b a : Int) (bt bb ba : Nat) (aD aS aX aH : Option Addr) (cD cS cX cH : Nat) (S : Nat → Prop) (w1 W : World) (hT : ∀ V, Bs S w1 V → TR V t (.slice aD t.D.length cD) (.slice aS t.S.length cS) (.slice aX t.X.length cX) (.slice aH t.H.length cH)) (he : t.err = 0)
    (b0 : 0 ≤ b) (b1 : b ≤ 210379679) (a0 : 0 ≤ a) (a1 : a ≤ 210379680) (hbel : Bs S w1 W)
    (hbt : Has W bt #[.string t.nm, .slice aD t.D.length cD, .int .i64 t.w0, .int .i64 t.w1, .int .i64 t.w2, .int .i64 t.w3, .int .i64 t.w4, .int .i64 t.w5, .int .i64 t.w6, .slice aS t.S.length cS, .slice aX t.X.length cX, .slice aH t.H.length cH])
    (hbb : Has W bb #[.int .i64 b]) (hba : Has W ba #[.int .i64 a]) :
    SeqU n 43 #[.pointer (some ⟨bt, 0, none⟩), .pointer (some ⟨bb, 0, none⟩), .pointer (some ⟨ba, 0, none⟩)] (fun m => #[.int .i64 m]) (chL t b a) (ChRv S bt bb ba) W := by
  intro y J Jx hJU hJ hJx hY U0 hN0 h0
  have hJU' : Hid _ := hJU
  have hCB : Hid (∀ k, ChRv S bt bb ba k → k < W.heap.size) := by
    have h1 := hbel.size
    have h2 := hbt.1
    have h3 := hbb.1
    have h4 := hba.1
    intro k hk
    rcases hk with h | h | h | h
    · have := hbel.lt k h; omega
    all_goals omega
  have hNS0 : Hid (NU (fun k => ChRv S bt bb ba k ∨ (W.heap.size ≤ k ∧ k < W.heap.size + 2)) U0) := fun k hk hu => by
    rcases hk with h | h
    · exact hN0 k h hu
    · have := hJU _ _ _ h0 k hu; omega
  obtain ⟨_, _, e3, _, e5, e6, e7, e8⟩ := err_zero he
  have hJ' : Hid _ := hJ
  have hJx' : Hid _ := hJx
  have hY' : Hid _ := hY
  clear hJ hY hJx hJU hN0
  have hsz := hbel.size
  have hst : Hid (∀ V, Below (W.heap.size + 1 + 1) ((W.alloc (.cells #[.func (.yield y) #[] #[]] 85)).alloc (.cells #[.slice aH t.H.length cH] 27)) V → SeqU (n - 1) 77 #[.pointer (some ⟨W.heap.size + 1, 0, none⟩)] (fun s => #[.agg #[.int .i64 s.b, .int .i64 s.e, .int .i64 s.p]]) (stL 0 0 t.H) (StRv S (W.heap.size + 1)) V) := by
    intro V hV
    have hz := hV.size
    simp at hz
    refine str1_v (n - 1) t.H (W.heap.size + 1) aH cH S w1 V (fun V hV => (hT V hV).h) (hT W hbel).hl ⟨?_, ?_, Nat.le_refl _⟩ (by omega)
    · exact (Has.new _ _ _ (by simp)).blk hV.size (hV.block _ (by omega))
    · exact (hbel.below (belT bel1 bel1)).belZ hV (by omega)
  have hrows : Hid (∀ (f l p : Int) (m : Nat) (bf bp bl bT : Nat) (V : World), -1 ≤ f → f ≤ 210379681 → -1 ≤ l → l ≤ 210379681 → -720 ≤ p → p ≤ 840 → RmSv S w1 V.heap.size bf bp bl bT f p l #[.string t.nm, .slice aD t.D.length cD, .int .i64 t.w0, .int .i64 t.w1, .int .i64 t.w2, .int .i64 t.w3, .int .i64 t.w4, .int .i64 t.w5, .int .i64 t.w6, .slice aS t.S.length cS, .slice aX t.X.length cX, .slice aH t.H.length cH] V → SeqU m 78 #[.pointer (some ⟨bf, 0, none⟩), .pointer (some ⟨bp, 0, none⟩), .pointer (some ⟨bl, 0, none⟩), .pointer (some ⟨bT, 0, none⟩)] (fun m => #[.int .i64 m]) (rmL t f l p) (RmRv S bf bp bl bT) V) :=
    fun f l p m bf bp bl bT V h1 h2 h3 h4 h5 h6 h7 => rows1_v m t f l p bf bp bl bT aD aS aX aH cD cS cX cH S w1 V hT he h1 h2 h3 h4 h5 h6 h7
  have hsc := stL_bnd t.H 0 0 (by omega) (by omega) (shift_ok e6) (plus_ok e5)
  have hch : Hid (∀ pre s, pre ++ [s] <+: stL 0 0 t.H → ∃ r : List Int, chL t b a = pre.flatMap (scL t b a) ++ ((if b < s.b ∧ s.b < a then [s.b] else []) ++ rmL t (max b s.b + 1) (min a s.e - 1) s.p ++ r)) := by
    rintro pre s ⟨r, hr⟩
    exact ⟨r.flatMap (scL t b a), by unfold chL; rw [← hr, List.flatMap_append, List.flatMap_append]; simp [scL]⟩
  have hfin : Hid (chL t b a = (stL 0 0 t.H).flatMap (scL t b a)) := rfl
  have c27 := fun W => callsIn_wide (n := n - 1) |>.2 (stretches_any aH t.H.length cH W)
  have hS0 : Hid (ChSv S w1 W.heap.size bt bb ba b a #[.string t.nm, .slice aD t.D.length cD, .int .i64 t.w0, .int .i64 t.w1, .int .i64 t.w2, .int .i64 t.w3, .int .i64 t.w4, .int .i64 t.w5, .int .i64 t.w6, .slice aS t.S.length cS, .slice aX t.X.length cX, .slice aH t.H.length cH] y (.slice aH t.H.length cH) ((W.alloc (.cells #[.func (.yield y) #[] #[]] 85)).alloc (.cells #[.slice aH t.H.length cH] 27))) :=
    ⟨(hbt.alloc _).alloc _, (hbb.alloc _).alloc _, (hba.alloc _).alloc _, (Has.new _ _ _ rfl).alloc _, Has.new _ _ _ (by simp), hbel.below (belT bel1 bel1), by simp⟩
  have hJ0 : Hid (J [] U0 ((W.alloc (.cells #[.func (.yield y) #[] #[]] 85)).alloc (.cells #[.slice aH t.H.length cH] 27))) := hJ'.out _ _ _ _ h0 (Only.of_below (belT bel1 bel1))
  have hsc' : Hid _ := hsc
  have c28 := fun f l p W => callsIn_wide (n := n - 1 - 1 - 1) |>.2 (rowMinutes_any (.string t.nm) (.slice aD t.D.length cD) (.int .i64 t.w0) (.int .i64 t.w1) (.int .i64 t.w2) (.int .i64 t.w3) (.int .i64 t.w4) (.int .i64 t.w5) (.int .i64 t.w6) (.slice aS t.S.length cS) (.slice aX t.X.length cX) (.slice aH t.H.length cH) f l p W)
  clear hsc h0 e3 e5 e6 e7 e8
  generalize chL t b a = L at *
  refine callsIn_of_wp_marks Try.func43 rfl trivial ?_ rfl
  simp only [Try.ntmps43, List.size_toArray, List.length_cons, List.length_nil, Nat.reduceAdd, Nat.reduceSub, Array.replicate_succ, Array.replicate_zero, List.push_toArray, List.append_toArray, List.nil_append, List.cons_append]
  obtain ⟨hbt1, q0, _⟩ := id hbt
  obtain ⟨hbb1, q1, _⟩ := id hbb
  obtain ⟨hba1, q2, _⟩ := id hba
  gi_wp2_with (refine ⟨trivial, fun h => (by cases h), ?_⟩; gi_at_call 44; refine (c27 _).mono ?_; rintro e w2 ⟨rfl, rfl⟩)
  clear q0 q1 q2 hbt hbb hba
  have hUz : ((W.alloc (.cells #[.func (.yield y) #[] #[]] 85)).alloc (.cells #[.slice aH t.H.length cH] 27)).heap.size = W.heap.size + 1 + 1 := by simp
  generalize (W.alloc (.cells #[.func (.yield y) #[] #[]] 85)).alloc (.cells #[.slice aH t.H.length cH] 27) = Ww at *
  refine rangeU_out (n := n) (gf := 77) (enc := fun s : Sc => #[.agg #[.int .i64 s.b, .int .i64 s.e, .int .i64 s.p]]) (L := stL 0 0 t.H) (R := StRv S (W.heap.size + 1)) rfl (enters_of Try.func77 (by kernel_rfl) rfl) (fun _ => rfl) (fun V hV => hst.out V (by rw [← hUz]; exact hV)) (fun k hk => by rcases hk with h | h; (have := hbel.lt k h; omega); omega)
    (fun pre U A => Hid (J (pre.flatMap (scL t b a)) U A) ∧ Hid (NU (fun k => ChRv S bt bb ba k ∨ (W.heap.size ≤ k ∧ k < W.heap.size + 2)) U) ∧ Hid (ChSv S w1 W.heap.size bt bb ba b a #[.string t.nm, .slice aD t.D.length cD, .int .i64 t.w0, .int .i64 t.w1, .int .i64 t.w2, .int .i64 t.w3, .int .i64 t.w4, .int .i64 t.w5, .int .i64 t.w6, .slice aS t.S.length cS, .slice aX t.X.length cX, .slice aH t.H.length cH] y (.slice aH t.H.length cH) A)) (fun c pre U A => c = .ret ∧ ∃ q, q <+: L ∧ Jx q U A)
    (fun s U a' A => ∃ sb, a' = { tmps := #[.func (.yield y) #[] #[], .pointer (some ⟨bt, 0, none⟩), .pointer (some ⟨bb, 0, none⟩), .pointer (some ⟨ba, 0, none⟩), .pointer (some ⟨W.heap.size, 0, none⟩), .pointer (some ⟨sb, 0, none⟩), undef, .pointer (some ⟨bt, 11, none⟩), .slice aH t.H.length cH, .func (.func 77) #[] #[.pointer (some ⟨W.heap.size + 1, 0, none⟩)], .agg #[.int .i64 s.b, .int .i64 s.e, .int .i64 s.p], undef, undef, undef, undef, undef, undef, undef, undef, undef, undef, undef, undef, undef, undef, undef, undef, undef, undef, undef, undef, undef, undef, undef, undef, undef, undef, undef, undef, undef, undef, undef, undef, undef, undef, undef, undef], defers := [] } ∧ Has A sb #[.int .i64 s.b, .int .i64 s.e, .int .i64 s.p] ∧ Ww.heap.size + 2 ≤ sb ∧ ¬ U sb)
    ?hIU ?hI ?hIx ?hAx U0 ?hU0 ?h0 ?assign ?body ?done ?stop
  case hIU =>
    rintro pre U A ⟨h1, _, _⟩
    exact hJU'.out _ _ _ h1.out
  case hU0 =>
    intro k hk
    rcases hk with h | h
    · exact hNS0.out k (.inl (.inl h))
    · exact hNS0.out k (.inr (by omega))
  case hI =>
    rintro pre U A B ⟨h1, hn, h2⟩ hb
    have hz := h2.out.hz
    exact ⟨hJ'.out _ _ _ _ h1.out (hb.it (by omega)), hn, h2.out.below (hb.toBelow (by omega)) (by omega) (by omega) (by omega) (by omega) (by omega)⟩
  case hIx =>
    rintro c pre U A B ⟨hc, q, hq, h1⟩ hb
    exact ⟨hc, q, hq, hJx'.out _ _ _ _ h1 (hb.it (by omega))⟩
  case hAx =>
    rintro s U a' A B ⟨sb, h1, h2, h3, h4⟩ hb
    exact ⟨sb, h1, h2.only hb (by omega), h3, h4⟩
  case h0 => exact ⟨hJ0, hNS0.out, hS0⟩
  case assign =>
    intro l pre s U V K hi hz hK
    have hUv := hJU'.out _ _ _ hi.1.out V.heap.size
    gi_wp2
    exact hK _ _ (bel1 (o := .cells #[.int .i64 s.b, .int .i64 s.e, .int .i64 s.p] 90)) ⟨V.heap.size, rfl, Has.new _ _ _ rfl, hz, fun h => by have := hUv h; omega⟩
  case body =>
    rintro pre s U a' V ⟨hJv, hNv, hSv⟩ ⟨sb, rfl, hsb, hsbz, hsbu⟩ hnl hp hz ⟨r₀, hr₀⟩
    obtain ⟨rest, hLr⟩ := hch.out pre s hp
    have hbd := hsc'.out s (by obtain ⟨r, hr⟩ := hp; rw [← hr]; simp)
    have hfl : (pre ++ [s]).flatMap (scL t b a) = pre.flatMap (scL t b a) ++ ((if b < s.b ∧ s.b < a then [s.b] else []) ++ rmL t (max b s.b + 1) (min a s.e - 1) s.p) := by rw [List.flatMap_append]; simp [scL]
    rw [hUz] at hr₀
    obtain ⟨⟨s0, s1⟩, ⟨s2, s3⟩, s4, s5⟩ := hbd
    generalize s.b = sB at *
    generalize s.e = sE at *
    generalize s.p = sP at *
    have hLr' : Hid _ := hLr
    have hfl' : Hid _ := hfl
    have hsb' : Hid _ := hsb
    clear hLr hfl hsb hp
    have HT : Hid (∀ (mins : List Int) (f l : Int) (U3 : Nat → Prop) (w3 w4 : World), f = max b sB + 1 → l = min a sE - 1 → L = mins ++ (rmL t (max b sB + 1) (min a sE - 1) sP ++ rest) → J mins U3 w3 → NU (fun k => ChRv S bt bb ba k ∨ (W.heap.size ≤ k ∧ k < W.heap.size + 2)) U3 → Gr U U3 V w3 → ChSv S w1 W.heap.size bt bb ba b a #[.string t.nm, .slice aD t.D.length cD, .int .i64 t.w0, .int .i64 t.w1, .int .i64 t.w2, .int .i64 t.w3, .int .i64 t.w4, .int .i64 t.w5, .int .i64 t.w6, .slice aS t.S.length cS, .slice aX t.X.length cX, .slice aH t.H.length cH] y (.slice aH t.H.length cH) w3 → Only (Tu (W.heap.size + 1 + 1) (StRv S (W.heap.size + 1)) U) V w3 →
        Below w3.heap.size w3 w4 → w4.heap.size = w3.heap.size + 4 → Has w4 w3.heap.size #[.string t.nm, .slice aD t.D.length cD, .int .i64 t.w0, .int .i64 t.w1, .int .i64 t.w2, .int .i64 t.w3, .int .i64 t.w4, .int .i64 t.w5, .int .i64 t.w6, .slice aS t.S.length cS, .slice aX t.X.length cX, .slice aH t.H.length cH] → Has w4 (w3.heap.size + 1) #[.int .i64 f] → Has w4 (w3.heap.size + 1 + 1) #[.int .i64 l] → Has w4 (w3.heap.size + 1 + 1 + 1) #[.int .i64 sP] →
        ∃ (I Ix : List Int → (Nat → Prop) → World → Prop) (R : Nat → Prop), (∀ V, Below w4.heap.size w4 V → SeqU (n - 1 - 1 - 1) 78 #[.pointer (some ⟨w3.heap.size + 1, 0, none⟩), .pointer (some ⟨w3.heap.size + 1 + 1 + 1, 0, none⟩), .pointer (some ⟨w3.heap.size + 1 + 1, 0, none⟩), .pointer (some ⟨w3.heap.size, 0, none⟩)] (fun m => #[.int .i64 m]) (rmL t f l sP) R V) ∧ (∀ k, R k → k < w4.heap.size) ∧ (∀ pre U A, I pre U A → ∀ k, U k → k < A.heap.size) ∧
          (∀ pre U A A', I pre U A → Only (It w4.heap.size U) A A' → I pre U A') ∧ (∀ pre U A A', Ix pre U A → Only (It w4.heap.size U) A A' → Ix pre U A') ∧ NU R U3 ∧ I [] U3 w4 ∧ (∀ pre U A, I pre U A → Has A W.heap.size #[.func (.yield y) #[] #[]]) ∧
          (∀ pre x U A, I pre U A → pre ++ [x] <+: rmL t f l sP → w4.heap.size ≤ A.heap.size → YieldAt Fence.wide (n - 1) Try.prog y #[.int .i64 x] A fun e A' => ∃ U', Gr U U' A A' ∧ Only (Tu w4.heap.size R U) A A' ∧ ((e = .returned (.bool true) ∧ I (pre ++ [x]) U' A') ∨ (e = .returned (.bool false) ∧ Ix (pre ++ [x]) U' A'))) ∧
          (∀ U' A, I (rmL t f l sP) U' A → Gr U U' V A ∧ NU (fun k => ChRv S bt bb ba k ∨ (W.heap.size ≤ k ∧ k < W.heap.size + 2)) U' ∧ Only (Tu (W.heap.size + 1 + 1) (StRv S (W.heap.size + 1)) U) V A ∧ J (mins ++ rmL t (max b sB + 1) (min a sE - 1) sP) U' A ∧ ChSv S w1 W.heap.size bt bb ba b a #[.string t.nm, .slice aD t.D.length cD, .int .i64 t.w0, .int .i64 t.w1, .int .i64 t.w2, .int .i64 t.w3, .int .i64 t.w4, .int .i64 t.w5, .int .i64 t.w6, .slice aS t.S.length cS, .slice aX t.X.length cX, .slice aH t.H.length cH] y (.slice aH t.H.length cH) A) ∧ (∀ pre U' A, Ix pre U' A → Gr U U' V A ∧ Only (Tu (W.heap.size + 1 + 1) (StRv S (W.heap.size + 1)) U) V A ∧ ∃ q, q <+: L ∧ Jx q U' A)) := by
      intro mins f l U3 w3 w4 hf hl hcut hJ3 hN3 hG3 hS3 hO3 hb4 hz4 g1 g2 g3 g4
      subst hf
      subst hl
      have hz3 := hS3.hz
      have hv3 := hO3.size
      have hU3 := hJU'.out _ _ _ hJ3
      have hs4 := hS3.below (Z := w3.heap.size) hb4 (by omega) (by omega) (by omega) (by omega) (by omega)
      have hNR : NU (RmRv S (w3.heap.size + 1) (w3.heap.size + 1 + 1 + 1) (w3.heap.size + 1 + 1) w3.heap.size) U3 := by
        intro k hk hu
        have hlt := hU3 k hu
        rcases hk with h | h | h | h | h
        · exact hN3 k (.inl (.inl h)) hu
        all_goals omega
      refine ⟨fun pre U' A => J (mins ++ pre) U' A ∧ NU (fun k => ChRv S bt bb ba k ∨ (W.heap.size ≤ k ∧ k < W.heap.size + 2)) U' ∧ ChSv S w1 W.heap.size bt bb ba b a #[.string t.nm, .slice aD t.D.length cD, .int .i64 t.w0, .int .i64 t.w1, .int .i64 t.w2, .int .i64 t.w3, .int .i64 t.w4, .int .i64 t.w5, .int .i64 t.w6, .slice aS t.S.length cS, .slice aX t.X.length cX, .slice aH t.H.length cH] y (.slice aH t.H.length cH) A ∧ Gr U U' V A ∧ Only (Tu (W.heap.size + 1 + 1) (StRv S (W.heap.size + 1)) U) V A, fun pre U' A => (∃ q, q <+: L ∧ Jx q U' A) ∧ Gr U U' V A ∧ Only (Tu (W.heap.size + 1 + 1) (StRv S (W.heap.size + 1)) U) V A, RmRv S (w3.heap.size + 1) (w3.heap.size + 1 + 1 + 1) (w3.heap.size + 1 + 1) w3.heap.size, ?_, ?_, ?_, ?_, ?_, hNR, ?_, ?_, ?_, ?_, ?_⟩
      · intro X hX
        exact hrows.out _ _ sP _ _ _ _ _ X (by omega) (by omega) (by omega) (by omega) s4 s5 ⟨g2.below hX, g4.below hX, g3.below hX, g1.below hX, hs4.bel.belZ hX (by omega), Nat.le_refl _⟩
      · intro k hk
        rcases hk with h | h | h | h | h
        · have := hbel.lt k h; omega
        all_goals omega
      · rintro pre U' A ⟨h1, _⟩
        exact hJU'.out _ _ _ h1
      · rintro pre U' A A' ⟨h1, hn, h2, hg, h3⟩ hb
        have hz := h2.hz
        exact ⟨hJ'.out _ _ _ _ h1 (hb.it (by omega)), hn, h2.belowI hb (by omega) (by omega) (by omega) (by omega) (by omega), hg.more hb.size, h3.itZ hb (by omega)⟩
      · rintro pre U' A A' ⟨⟨q, hq, h1⟩, hg, h3⟩ hb
        exact ⟨⟨q, hq, hJx'.out _ _ _ _ h1 (hb.it (by omega))⟩, hg.more hb.size, h3.itZ hb (by omega)⟩
      · exact ⟨by rw [List.append_nil]; exact hJ'.out _ _ _ _ hJ3 (Only.of_below hb4), hN3, hs4, hG3.more hb4.size, hO3.belowZ hb4 hv3⟩
      · rintro pre U' A ⟨_, _, h2, _⟩
        exact h2.hy
      · rintro pre x U' A ⟨h1, hn, h2, hg, h3⟩ hp hz
        have hzA := h2.hz
        have hpx : mins ++ pre ++ [x] <+: L := by
          obtain ⟨r, hr⟩ := hp
          exact ⟨r ++ rest, by rw [hcut, ← hr]; simp⟩
        obtain ⟨fn, tmps, assign, body, hy, hRd⟩ := hY'.out (mins ++ pre) x U' A h1 hpx (by omega)
        refine ⟨fn, tmps, assign, body, hy, hRd.mono ?_⟩
        rintro e A' ⟨U'', hg2, hO2, hk⟩
        have hO : Only (Tu (W.heap.size + 1 + 1) (StRv S (W.heap.size + 1)) U) V A' := ⟨hO2.os.trans h3.os, hO2.tape.trans h3.tape, hO2.output.trans h3.output, Nat.le_trans h3.size hO2.size, fun k hk hn2 => (hO2.block k (by have := h3.size; omega) (fun x => by
          rcases x with x | x
          · refine hn2 (.inl ⟨by have := x.1; omega, fun y => ?_⟩)
            rcases y with y | y
            · exact x.2 (.inl y)
            · have := x.1; omega
          · rcases (hg k x).1 with y | y
            · exact hn2 (.inr y)
            · omega)).trans (h3.block k hk hn2)⟩
        have hG : Gr U U'' V A' := fun k hk => ⟨(hg2 k hk).1.elim (fun x => (hg k x).1) (fun x => .inr (by have := h3.size; omega)), (hg2 k hk).2⟩
        have hN : NU (fun k => ChRv S bt bb ba k ∨ (W.heap.size ≤ k ∧ k < W.heap.size + 2)) U'' := hn.gr hg2 (fun k hk => by rcases hk with h | h; (have := hCB.out k h; omega); omega)
        have hT : Only (Tu w4.heap.size (RmRv S (w3.heap.size + 1) (w3.heap.size + 1 + 1 + 1) (w3.heap.size + 1 + 1) w3.heap.size) U') A A' := hO2.mono (fun k hk => hk.elim (fun x => .inl ⟨by have := x.1; omega, fun y => by
          have hx1 := x.1
          rcases y with y | y | y | y | y
          · exact x.2 (.inl y)
          all_goals omega⟩) .inr)
        refine ⟨U'', hg2, hT, ?_⟩
        rcases hk with ⟨rfl, k1⟩ | ⟨rfl, k1⟩
        · exact .inl ⟨rfl, by rw [← List.append_assoc]; exact k1, hN, h2.onlyU hO2 hn, hG, hO⟩
        · exact .inr ⟨rfl, ⟨_, hpx, k1⟩, hG, hO⟩
      · rintro U' A ⟨h1, hn, h2, hg, h3⟩
        exact ⟨hg, hn, h3, h1, h2⟩
      · rintro pre U' A ⟨h1, hg, h3⟩
        exact ⟨hg, h3, h1⟩
    obtain ⟨_, q0, _⟩ := id hSv.out.ht
    obtain ⟨_, q1, _⟩ := id hSv.out.hb
    obtain ⟨_, q2, _⟩ := id hSv.out.ha
    obtain ⟨_, q3, _⟩ := id hSv.out.hy
    obtain ⟨hsbl, q4, _⟩ := (show Has V sb #[.int .i64 sB, .int .i64 sE, .int .i64 sP] from hsb'.out)
    by_cases hA : b < sB
    · by_cases hB : sB < a
      · obtain ⟨fn, tmps, assign, body, hy, hRd⟩ := hY'.out _ sB U V hJv.out (pre_of (b := rmL t (max b sB + 1) (min a sE - 1) sP ++ rest) (by rw [hLr'.out, if_pos ⟨hA, hB⟩]; simp)) (by omega)
        gi_wp2
        refine ⟨fun h => (by cases h), round_any (hRd.mono ?_)⟩
        rintro e w3 ⟨U3, hg3, hK3, ⟨rfl, hJ3⟩ | ⟨rfl, hJ3⟩⟩
        · have hS3 : Hid _ := hSv.out.onlyU hK3 hNv.out
          have hzV := hSv.out.hz
          have hN3 : Hid (NU (fun k => ChRv S bt bb ba k ∨ (W.heap.size ≤ k ∧ k < W.heap.size + 2)) U3) := hNv.out.gr hg3 (fun k hk => by rcases hk with h | h; (have := hCB.out k h; omega); omega)
          have hsb3 : Has w3 sb #[.int .i64 sB, .int .i64 sE, .int .i64 sP] := Has.only hsb'.out hK3 (fun x => x.elim (fun x => by have := x.1; omega) hsbu)
          have hO3 : Hid (Only (Tu (W.heap.size + 1 + 1) (StRv S (W.heap.size + 1)) U) V w3) := hK3.mono (fun k hk => hk.elim (fun hk => .inl ⟨by have := hk.1; omega, fun x => by rcases x with x | x; (exact hk.2 (.inl x)); (have := hk.1; omega)⟩) .inr)
          have hr3 := (hK3.block (W.heap.size + 1 + 1 + 1) (by omega) (fun x => x.elim (fun x => by have := x.1; omega) (hnl _ ⟨by omega, by omega⟩))).trans hr₀
          have hg3' : Hid _ := hg3
          clear q0 q1 q2 q3 q4 hJv hy hRd hg3
          obtain ⟨_, u0, _⟩ := id hS3.out.ht
          obtain ⟨_, u1, _⟩ := id hS3.out.hb
          obtain ⟨_, u2, _⟩ := id hS3.out.ha
          obtain ⟨_, u4, _⟩ := hsb3
          gi_wp2_with (refine ⟨trivial, fun h => (by cases h), ?_⟩; gi_at_call 45; refine (c28 _ _ _ _).mono ?_; rintro e w4 ⟨rfl, hb4, hz4, g1, g2, g3, g4⟩)
          all_goals
            have hr4 := (hb4.block (W.heap.size + 1 + 1 + 1) (by have := hO3.out.size; omega)).trans hr3
            obtain ⟨I, Ix, R, i1, i2, i3, i4, i5, i6, i7, i8, i9, i10, i11⟩ := HT.out (pre.flatMap (scL t b a) ++ [sB]) _ _ U3 w3 w4 (by omega) (by omega) (by rw [hLr'.out, if_pos ⟨hA, hB⟩]; simp) hJ3 hN3.out hg3'.out hS3.out hO3.out hb4 hz4 g1 g2 g3 g4
            refine innerU hr4 i1 i2 I Ix i3 i4 i5 _ i6 i7 i8 i9 ?_ ?_
            · intro a' U' A hA2
              obtain ⟨j4, j5, j1, j2, j3⟩ := i10 U' A hA2
              gi_wp2
              exact ⟨U', j4, by rw [hUz]; exact j1, by show J _ _ _; rw [hfl'.out, if_pos ⟨hA, hB⟩]; simpa using j2, j5, j3⟩
            · intro a' pr U' A _ hA2
              obtain ⟨j4, j1, j2⟩ := i11 pr U' A hA2
              gi_wp2
              exact ⟨U', j4, by rw [hUz]; exact j1, rfl, j2⟩
        · gi_wp2
          exact ⟨U3, hg3, hK3.mono (fun k hk => hk.elim (fun hk => .inl ⟨by have := hk.1; omega, fun x => by rcases x with x | x; (exact hk.2 (.inl x)); (have := hk.1; omega)⟩) .inr), rfl, _, pre_of (b := rmL t (max b sB + 1) (min a sE - 1) sP ++ rest) (by rw [hLr'.out, if_pos ⟨hA, hB⟩]; simp), hJ3⟩
      · have hO3 : Hid (Only (Tu (W.heap.size + 1 + 1) (StRv S (W.heap.size + 1)) U) V V) := Only.refl _ _
        have hGV : Hid (Gr U U V V) := fun k hk => ⟨.inl hk, hJU'.out _ _ _ hJv.out k hk⟩
        gi_wp2
        refine ⟨fun _ _ => trivial, ?_⟩
        gi_wp2_with (refine ⟨trivial, fun h => (by cases h), ?_⟩; gi_at_call 45; refine (c28 _ _ _ _).mono ?_; rintro e w4 ⟨rfl, hb4, hz4, g1, g2, g3, g4⟩)
        all_goals
          have hr4 := (hb4.block (W.heap.size + 1 + 1 + 1) (by have := hO3.out.size; omega)).trans hr₀
          obtain ⟨I, Ix, R, i1, i2, i3, i4, i5, i6, i7, i8, i9, i10, i11⟩ := HT.out (pre.flatMap (scL t b a)) _ _ U V w4 (by omega) (by omega) (by rw [hLr'.out, if_neg (by omega : ¬ (b < sB ∧ sB < a))]; simp) hJv.out hNv.out hGV.out hSv.out hO3.out hb4 hz4 g1 g2 g3 g4
          refine innerU hr4 i1 i2 I Ix i3 i4 i5 _ i6 i7 i8 i9 ?_ ?_
          · intro a' U' A hA2
            obtain ⟨j4, j5, j1, j2, j3⟩ := i10 U' A hA2
            gi_wp2
            exact ⟨U', j4, by rw [hUz]; exact j1, by show J _ _ _; rw [hfl'.out, if_neg (by omega : ¬ (b < sB ∧ sB < a))]; simpa using j2, j5, j3⟩
          · intro a' pr U' A _ hA2
            obtain ⟨j4, j1, j2⟩ := i11 pr U' A hA2
            gi_wp2
            exact ⟨U', j4, by rw [hUz]; exact j1, rfl, j2⟩
    · have hO3 : Hid (Only (Tu (W.heap.size + 1 + 1) (StRv S (W.heap.size + 1)) U) V V) := Only.refl _ _
      have hGV : Hid (Gr U U V V) := fun k hk => ⟨.inl hk, hJU'.out _ _ _ hJv.out k hk⟩
      gi_wp2
      refine ⟨fun _ _ => trivial, ?_⟩
      gi_wp2_with (refine ⟨trivial, fun h => (by cases h), ?_⟩; gi_at_call 45; refine (c28 _ _ _ _).mono ?_; rintro e w4 ⟨rfl, hb4, hz4, g1, g2, g3, g4⟩)
      all_goals
        have hr4 := (hb4.block (W.heap.size + 1 + 1 + 1) (by have := hO3.out.size; omega)).trans hr₀
        obtain ⟨I, Ix, R, i1, i2, i3, i4, i5, i6, i7, i8, i9, i10, i11⟩ := HT.out (pre.flatMap (scL t b a)) _ _ U V w4 (by omega) (by omega) (by rw [hLr'.out, if_neg (by omega : ¬ (b < sB ∧ sB < a))]; simp) hJv.out hNv.out hGV.out hSv.out hO3.out hb4 hz4 g1 g2 g3 g4
        refine innerU hr4 i1 i2 I Ix i3 i4 i5 _ i6 i7 i8 i9 ?_ ?_
        · intro a' U' A hA2
          obtain ⟨j4, j5, j1, j2, j3⟩ := i10 U' A hA2
          gi_wp2
          exact ⟨U', j4, by rw [hUz]; exact j1, by show J _ _ _; rw [hfl'.out, if_neg (by omega : ¬ (b < sB ∧ sB < a))]; simpa using j2, j5, j3⟩
        · intro a' pr U' A _ hA2
          obtain ⟨j4, j1, j2⟩ := i11 pr U' A hA2
          gi_wp2
          exact ⟨U', j4, by rw [hUz]; exact j1, rfl, j2⟩
  case done =>
    rintro U V ⟨hJv, hNv, hSv⟩ hnD hD hz
    have hUz2 := hJU'.out _ _ _ hJv.out
    gi_wp2
    refine ⟨by simp, .inl ⟨_, _, rfl, run_takeDeferred hD, ?_⟩⟩
    refine ⟨_, results_none rfl _ _ _, ⟨_, rfl⟩, .inl ⟨U, hJ'.out _ _ _ _ (by rw [hfin.out]; exact hJv.out) (put_it _ _ (by omega) ?_)⟩⟩
    exact hnD _ ⟨Nat.le_refl _, by omega⟩
  case stop =>
    rintro c pre U V hp ⟨rfl, q, hq, hJp⟩ hnD hD hz
    gi_wp2
    refine ⟨by simp, .inl ⟨_, _, rfl, run_takeDeferred hD, ?_⟩⟩
    refine ⟨_, results_none rfl _ _ _, ⟨_, rfl⟩, .inr ⟨q, U, hq, hJx'.out _ _ _ _ hJp (put_it _ _ (by omega) ?_)⟩⟩
    exact hnD _ ⟨Nat.le_refl _, by omega⟩
end Go.Proofs.Ytddphepgcihdbaa
