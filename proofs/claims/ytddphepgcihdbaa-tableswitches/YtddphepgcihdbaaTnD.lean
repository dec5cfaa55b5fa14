import Derived.Test.YtddphepgcihdbaaTnE
namespace Go.Proofs.Ytddphepgcihdbaa
open Go.RowKit Go.Shelf
set_option linter.unusedVariables false
set_option linter.unusedSimpArgs false

attribute [local go_sem] Oper.semAt_some
theorem stL_bnd : ∀ (H : List Sh) (b p : Int), (0 ≤ b ∧ b ≤ 210379679) → (-720 ≤ p ∧ p ≤ 840) → (∀ x ∈ H, 0 ≤ x.m ∧ x.m ≤ 210379679) → (∀ x ∈ H, -720 ≤ x.plus ∧ x.plus ≤ 840) → ∀ s ∈ stL b p H, (0 ≤ s.b ∧ s.b ≤ 210379679) ∧ (0 ≤ s.e ∧ s.e ≤ 210379680) ∧ (-720 ≤ s.p ∧ s.p ≤ 840)
  | [], b, p, hb, hp, _, _, s, hs => by
    simp [stL] at hs; subst hs
    exact ⟨hb, by show (0 : Int) ≤ 210379680 ∧ (210379680 : Int) ≤ 210379680; omega, hp⟩
  | x :: H, b, p, hb, hp, h1, h2, s, hs => by
    have hx := h1 x (List.mem_cons_self ..)
    rcases List.mem_cons.1 hs with rfl | hs
    · exact ⟨hb, by show 0 ≤ x.m ∧ x.m ≤ 210379680; omega, hp⟩
    · exact stL_bnd H x.m x.plus hx (h2 x (List.mem_cons_self ..)) (fun y hy => h1 y (List.mem_cons_of_mem _ hy)) (fun y hy => h2 y (List.mem_cons_of_mem _ hy)) s hs
theorem plus_ok {t : Tt} (h : t.clkB = true) : ∀ x ∈ t.H, -720 ≤ x.plus ∧ x.plus ≤ 840 := by
  intro x hx
  simp only [Tt.clkB, Bool.and_eq_true, List.all_eq_true] at h
  have := h.2 x hx
  simpa [inB] using this
theorem Only.belowZ {S : Nat → Prop} {a w w' : World} {Z : Nat} (h : Only S a w) (hb : Below Z w w') (hZ : a.heap.size ≤ Z) : Only S a w' :=
  ⟨hb.os.trans h.os, hb.tape.trans h.tape, hb.output.trans h.output, Nat.le_trans h.size hb.size, fun k hk hn => (hb.block k (by omega)).trans (h.block k hk hn)⟩

set_option maxRecDepth 100000 in
set_option maxHeartbeats 8000000 in
theorem ch1_seq (n : Nat) (t : Tt) (b a : Int) (bt bb ba : Nat) (aD aS aX aH : Option Addr) (cD cS cX cH : Nat) (w1 W : World) (hR : TR w1 t (.slice aD t.D.length cD) (.slice aS t.S.length cS) (.slice aX t.X.length cX) (.slice aH t.H.length cH)) (he : t.err = 0)
    (b0 : 0 ≤ b) (b1 : b ≤ 210379679) (a0 : 0 ≤ a) (a1 : a ≤ 210379680) (hbel : Below w1.heap.size w1 W)
    (hbt : Has W bt #[.string t.nm, .slice aD t.D.length cD, .int .i64 t.w0, .int .i64 t.w1, .int .i64 t.w2, .int .i64 t.w3, .int .i64 t.w4, .int .i64 t.w5, .int .i64 t.w6, .slice aS t.S.length cS, .slice aX t.X.length cX, .slice aH t.H.length cH])
    (hbb : Has W bb #[.int .i64 b]) (hba : Has W ba #[.int .i64 a]) :
    SeqAt n 43 #[.pointer (some ⟨bt, 0, none⟩), .pointer (some ⟨bb, 0, none⟩), .pointer (some ⟨ba, 0, none⟩)] (fun m => #[.int .i64 m]) (chL t b a) (ChR w1.heap.size bt bb ba) W := by
  intro y J Jx hJ hJx hY h0
  obtain ⟨_, _, e3, _, e5, e6, e7, e8⟩ := err_zero he
  have hJ' : Hid _ := hJ
  have hJx' : Hid _ := hJx
  have hY' : Hid _ := hY
  clear hJ hY hJx
  have hsz := hbel.size
  have hst : Hid (∀ V, Below (W.heap.size + 1 + 1) ((W.alloc (.cells #[.func (.yield y) #[] #[]] 85)).alloc (.cells #[.slice aH t.H.length cH] 27)) V → SeqAt (n - 1) 77 #[.pointer (some ⟨W.heap.size + 1, 0, none⟩)] (fun s => #[.agg #[.int .i64 s.b, .int .i64 s.e, .int .i64 s.p]]) (stL 0 0 t.H) (StR w1.heap.size (W.heap.size + 1)) V) := by
    intro V hV
    have hz := hV.size
    simp at hz
    refine str1_seq (n - 1) t.H (W.heap.size + 1) aH cH w1 V hR.h hR.hl ⟨?_, ?_, Nat.le_refl _⟩ (by omega)
    · exact (Has.new _ _ _ (by simp)).blk hV.size (hV.block _ (by omega))
    · exact (hbel.trans ((belT bel1 bel1).mono hsz)).trans (hV.mono (by omega))
  have hrows : Hid (∀ (f l p : Int) (m : Nat) (bf bp bl bT : Nat) (V : World), -1 ≤ f → f ≤ 210379681 → -1 ≤ l → l ≤ 210379681 → -720 ≤ p → p ≤ 840 → RmS w1 V.heap.size bf bp bl bT f p l #[.string t.nm, .slice aD t.D.length cD, .int .i64 t.w0, .int .i64 t.w1, .int .i64 t.w2, .int .i64 t.w3, .int .i64 t.w4, .int .i64 t.w5, .int .i64 t.w6, .slice aS t.S.length cS, .slice aX t.X.length cX, .slice aH t.H.length cH] V → SeqAt m 78 #[.pointer (some ⟨bf, 0, none⟩), .pointer (some ⟨bp, 0, none⟩), .pointer (some ⟨bl, 0, none⟩), .pointer (some ⟨bT, 0, none⟩)] (fun m => #[.int .i64 m]) (rmL t f l p) (RmR w1.heap.size bf bp bl bT) V) :=
    fun f l p m bf bp bl bT V h1 h2 h3 h4 h5 h6 h7 => rows1_seq m t f l p bf bp bl bT aD aS aX aH cD cS cX cH w1 V hR he h1 h2 h3 h4 h5 h6 h7
  have hsc := stL_bnd t.H 0 0 (by omega) (by omega) (shift_ok e6) (plus_ok e5)
  have hch : Hid (∀ pre s, pre ++ [s] <+: stL 0 0 t.H → ∃ r : List Int, chL t b a = pre.flatMap (scL t b a) ++ ((if b < s.b ∧ s.b < a then [s.b] else []) ++ rmL t (max b s.b + 1) (min a s.e - 1) s.p ++ r)) := by
    rintro pre s ⟨r, hr⟩
    exact ⟨r.flatMap (scL t b a), by unfold chL; rw [← hr, List.flatMap_append, List.flatMap_append]; simp [scL]⟩
  have hfin : Hid (chL t b a = (stL 0 0 t.H).flatMap (scL t b a)) := rfl
  have c27 := fun W => callsIn_wide (n := n - 1) |>.2 (stretches_any aH t.H.length cH W)
  have hS0 : Hid (ChS w1 W.heap.size bt bb ba b a #[.string t.nm, .slice aD t.D.length cD, .int .i64 t.w0, .int .i64 t.w1, .int .i64 t.w2, .int .i64 t.w3, .int .i64 t.w4, .int .i64 t.w5, .int .i64 t.w6, .slice aS t.S.length cS, .slice aX t.X.length cX, .slice aH t.H.length cH] y (.slice aH t.H.length cH) ((W.alloc (.cells #[.func (.yield y) #[] #[]] 85)).alloc (.cells #[.slice aH t.H.length cH] 27))) :=
    ⟨(hbt.alloc _).alloc _, (hbb.alloc _).alloc _, (hba.alloc _).alloc _, (Has.new _ _ _ rfl).alloc _, Has.new _ _ _ (by simp), hbel.trans ((belT bel1 bel1).mono hsz), by simp⟩
  have hJ0 : Hid (J [] ((W.alloc (.cells #[.func (.yield y) #[] #[]] 85)).alloc (.cells #[.slice aH t.H.length cH] 27))) := hJ'.out _ _ _ h0 (belT bel1 bel1)
  have hsc' : Hid _ := hsc
  have c28 := fun f l p W => callsIn_wide (n := n - 1 - 1 - 1) |>.2 (rowMinutes_any (.string t.nm) (.slice aD t.D.length cD) (.int .i64 t.w0) (.int .i64 t.w1) (.int .i64 t.w2) (.int .i64 t.w3) (.int .i64 t.w4) (.int .i64 t.w5) (.int .i64 t.w6) (.slice aS t.S.length cS) (.slice aX t.X.length cX) (.slice aH t.H.length cH) f l p W)
  clear hsc h0 e3 e5 e6 e7 e8
  generalize chL t b a = L at *
  refine callsIn_of_wp_marks Try.func43 rfl trivial ?_ rfl
  simp only [Try.ntmps43, List.size_toArray, List.length_cons, List.length_nil, Nat.reduceAdd, Nat.reduceSub, Array.replicate_succ, Array.replicate_zero, List.push_toArray, List.append_toArray, List.nil_append, List.cons_append]
  obtain ⟨hbt1, q0, _⟩ := id hbt
  obtain ⟨hbb1, q1, _⟩ := id hbb
  obtain ⟨hba1, q2, _⟩ := id hba
  gi_wp2_with (refine ⟨trivial, fun h => (by cases h), ?_⟩; gi_at_call 44; refine (c27 _).mono ?_; rintro e w2 ⟨rfl, rfl⟩)
  clear q0 q1 q2 hbt hbb hba
  have hUz : ((W.alloc (.cells #[.func (.yield y) #[] #[]] 85)).alloc (.cells #[.slice aH t.H.length cH] 27)).heap.size = W.heap.size + 1 + 1 := by simp
  generalize (W.alloc (.cells #[.func (.yield y) #[] #[]] 85)).alloc (.cells #[.slice aH t.H.length cH] 27) = U at *
  refine range_out (n := n) (gf := 77) (enc := fun s : Sc => #[.agg #[.int .i64 s.b, .int .i64 s.e, .int .i64 s.p]]) (L := stL 0 0 t.H) (R := StR w1.heap.size (W.heap.size + 1)) rfl (enters_of Try.func77 (by kernel_rfl) rfl) (fun _ => rfl) (fun V hV => hst.out V (by rw [← hUz]; exact hV)) (fun k hk => by rcases hk with h | h <;> omega)
    (fun pre A => Hid (J (pre.flatMap (scL t b a)) A) ∧ Hid (ChS w1 W.heap.size bt bb ba b a #[.string t.nm, .slice aD t.D.length cD, .int .i64 t.w0, .int .i64 t.w1, .int .i64 t.w2, .int .i64 t.w3, .int .i64 t.w4, .int .i64 t.w5, .int .i64 t.w6, .slice aS t.S.length cS, .slice aX t.X.length cX, .slice aH t.H.length cH] y (.slice aH t.H.length cH) A)) (fun c pre A => c = .ret ∧ ∃ q, q <+: L ∧ Jx q A)
    (fun s a' A => ∃ sb, a' = { tmps := #[.func (.yield y) #[] #[], .pointer (some ⟨bt, 0, none⟩), .pointer (some ⟨bb, 0, none⟩), .pointer (some ⟨ba, 0, none⟩), .pointer (some ⟨W.heap.size, 0, none⟩), .pointer (some ⟨sb, 0, none⟩), undef, .pointer (some ⟨bt, 11, none⟩), .slice aH t.H.length cH, .func (.func 77) #[] #[.pointer (some ⟨W.heap.size + 1, 0, none⟩)], .agg #[.int .i64 s.b, .int .i64 s.e, .int .i64 s.p], undef, undef, undef, undef, undef, undef, undef, undef, undef, undef, undef, undef, undef, undef, undef, undef, undef, undef, undef, undef, undef, undef, undef, undef, undef, undef, undef, undef, undef, undef, undef, undef, undef, undef, undef, undef], defers := [] } ∧ Has A sb #[.int .i64 s.b, .int .i64 s.e, .int .i64 s.p] ∧ U.heap.size + 2 ≤ sb)
    ?hI ?hIx ?hAx ?h0 ?assign ?body ?done ?stop
  case hI =>
    rintro pre A B ⟨h1, h2⟩ hb
    exact ⟨hJ'.out _ _ _ h1.out (hb.mono (by omega)), h2.out.below hb (by omega) (by omega) (by omega) (by omega) (by omega)⟩
  case hIx =>
    rintro c pre A B ⟨hc, q, hq, h1⟩ hb
    exact ⟨hc, q, hq, hJx'.out _ _ _ h1 (hb.mono (by omega))⟩
  case hAx =>
    rintro s a' A B ⟨sb, h1, h2, h3⟩ hb
    exact ⟨sb, h1, h2.only hb (by omega), h3⟩
  case h0 => exact ⟨hJ0, hS0⟩
  case assign =>
    intro l pre s V K hi hz hK
    gi_wp2
    exact hK _ _ (bel1 (o := .cells #[.int .i64 s.b, .int .i64 s.e, .int .i64 s.p] 90)) ⟨V.heap.size, rfl, Has.new _ _ _ rfl, hz⟩
  case body =>
    rintro pre s a' V ⟨hJv, hSv⟩ ⟨sb, rfl, hsb, hsbz⟩ hp hz ⟨r₀, hr₀⟩
    obtain ⟨rest, hLr⟩ := hch.out pre s hp
    have hbd := hsc'.out s (by obtain ⟨r, hr⟩ := hp; rw [← hr]; simp)
    have hfl : (pre ++ [s]).flatMap (scL t b a) = pre.flatMap (scL t b a) ++ ((if b < s.b ∧ s.b < a then [s.b] else []) ++ rmL t (max b s.b + 1) (min a s.e - 1) s.p) := by rw [List.flatMap_append]; simp [scL]
    rw [hUz] at hr₀
    obtain ⟨⟨s0, s1⟩, ⟨s2, s3⟩, s4, s5⟩ := hbd
    generalize s.b = sB at *
    generalize s.e = sE at *
    generalize s.p = sP at *
    have hLr' : Hid _ := hLr
    have hfl' : Hid _ := hfl
    have hsb' : Hid _ := hsb
    clear hLr hfl hsb hp
    have HT : Hid (∀ (mins : List Int) (f l : Int) (w3 w4 : World), f = max b sB + 1 → l = min a sE - 1 → L = mins ++ (rmL t (max b sB + 1) (min a sE - 1) sP ++ rest) → J mins w3 → ChS w1 W.heap.size bt bb ba b a #[.string t.nm, .slice aD t.D.length cD, .int .i64 t.w0, .int .i64 t.w1, .int .i64 t.w2, .int .i64 t.w3, .int .i64 t.w4, .int .i64 t.w5, .int .i64 t.w6, .slice aS t.S.length cS, .slice aX t.X.length cX, .slice aH t.H.length cH] y (.slice aH t.H.length cH) w3 → Only (Tn (W.heap.size + 1 + 1) (StR w1.heap.size (W.heap.size + 1))) V w3 →
        Below w3.heap.size w3 w4 → w4.heap.size = w3.heap.size + 4 → Has w4 w3.heap.size #[.string t.nm, .slice aD t.D.length cD, .int .i64 t.w0, .int .i64 t.w1, .int .i64 t.w2, .int .i64 t.w3, .int .i64 t.w4, .int .i64 t.w5, .int .i64 t.w6, .slice aS t.S.length cS, .slice aX t.X.length cX, .slice aH t.H.length cH] → Has w4 (w3.heap.size + 1) #[.int .i64 f] → Has w4 (w3.heap.size + 1 + 1) #[.int .i64 l] → Has w4 (w3.heap.size + 1 + 1 + 1) #[.int .i64 sP] →
        ∃ (I Ix : List Int → World → Prop) (R S : Nat → Prop), (∀ V, Below w4.heap.size w4 V → SeqAt (n - 1 - 1 - 1) 78 #[.pointer (some ⟨w3.heap.size + 1, 0, none⟩), .pointer (some ⟨w3.heap.size + 1 + 1 + 1, 0, none⟩), .pointer (some ⟨w3.heap.size + 1 + 1, 0, none⟩), .pointer (some ⟨w3.heap.size, 0, none⟩)] (fun m => #[.int .i64 m]) (rmL t f l sP) R V) ∧ (∀ k, R k → k < w4.heap.size) ∧ (∀ k, S k → Tn w4.heap.size R k) ∧
          (∀ pre A A', I pre A → Below w4.heap.size A A' → I pre A') ∧ (∀ pre A A', Ix pre A → Below w4.heap.size A A' → Ix pre A') ∧ I [] w4 ∧ (∀ pre A, I pre A → Has A W.heap.size #[.func (.yield y) #[] #[]]) ∧
          (∀ pre x A, I pre A → pre ++ [x] <+: rmL t f l sP → w4.heap.size ≤ A.heap.size → YieldAt Fence.wide (n - 1) Try.prog y #[.int .i64 x] A fun e A' => (e = .returned (.bool true) ∧ I (pre ++ [x]) A' ∧ Only S A A') ∨ (e = .returned (.bool false) ∧ Ix (pre ++ [x]) A' ∧ Only S A A')) ∧
          (∀ A, I (rmL t f l sP) A → Only (Tn (W.heap.size + 1 + 1) (StR w1.heap.size (W.heap.size + 1))) V A ∧ J (mins ++ rmL t (max b sB + 1) (min a sE - 1) sP) A ∧ ChS w1 W.heap.size bt bb ba b a #[.string t.nm, .slice aD t.D.length cD, .int .i64 t.w0, .int .i64 t.w1, .int .i64 t.w2, .int .i64 t.w3, .int .i64 t.w4, .int .i64 t.w5, .int .i64 t.w6, .slice aS t.S.length cS, .slice aX t.X.length cX, .slice aH t.H.length cH] y (.slice aH t.H.length cH) A) ∧ (∀ pre A, Ix pre A → Only (Tn (W.heap.size + 1 + 1) (StR w1.heap.size (W.heap.size + 1))) V A ∧ ∃ q, q <+: L ∧ Jx q A)) := by
      intro mins f l w3 w4 hf hl hcut hJ3 hS3 hO3 hb4 hz4 g1 g2 g3 g4
      subst hf
      subst hl
      have hz3 := hS3.hz
      have hv3 := hO3.size
      have hs4 := hS3.below (Z := w3.heap.size) hb4 (by omega) (by omega) (by omega) (by omega) (by omega)
      refine ⟨fun pre A => J (mins ++ pre) A ∧ ChS w1 W.heap.size bt bb ba b a #[.string t.nm, .slice aD t.D.length cD, .int .i64 t.w0, .int .i64 t.w1, .int .i64 t.w2, .int .i64 t.w3, .int .i64 t.w4, .int .i64 t.w5, .int .i64 t.w6, .slice aS t.S.length cS, .slice aX t.X.length cX, .slice aH t.H.length cH] y (.slice aH t.H.length cH) A ∧ Only (Tn (W.heap.size + 1 + 1) (StR w1.heap.size (W.heap.size + 1))) V A, fun pre A => (∃ q, q <+: L ∧ Jx q A) ∧ Only (Tn (W.heap.size + 1 + 1) (StR w1.heap.size (W.heap.size + 1))) V A, RmR w1.heap.size (w3.heap.size + 1) (w3.heap.size + 1 + 1 + 1) (w3.heap.size + 1 + 1) w3.heap.size, Tn W.heap.size (ChR w1.heap.size bt bb ba), ?_, ?_, ?_, ?_, ?_, ?_, ?_, ?_, ?_, ?_⟩
      · intro X hX
        exact hrows.out _ _ sP _ _ _ _ _ X (by omega) (by omega) (by omega) (by omega) s4 s5 ⟨g2.below hX, g4.below hX, g3.below hX, g1.below hX, hs4.bel.trans (hX.mono (by omega)), Nat.le_refl _⟩
      · intro k hk
        rcases hk with h | h | h | h | h <;> omega
      · intro k hk
        have := hk.1
        refine ⟨by omega, fun x => ?_⟩
        rcases x with h | h | h | h | h
        · exact hk.2 (.inl h)
        all_goals omega
      · rintro pre A A' ⟨h1, h2, h3⟩ hb
        exact ⟨hJ'.out _ _ _ h1 (hb.mono (by omega)), h2.below hb (by omega) (by omega) (by omega) (by omega) (by omega), h3.belowZ hb (by omega)⟩
      · rintro pre A A' ⟨⟨q, hq, h1⟩, h3⟩ hb
        exact ⟨⟨q, hq, hJx'.out _ _ _ h1 (hb.mono (by omega))⟩, h3.belowZ hb (by omega)⟩
      · exact ⟨by rw [List.append_nil]; exact hJ'.out _ _ _ hJ3 (hb4.mono (by omega)), hs4, hO3.belowZ hb4 hv3⟩
      · rintro pre A ⟨_, h2, _⟩
        exact h2.hy
      · rintro pre x A ⟨h1, h2, h3⟩ hp hz
        have hO : ∀ A', Only (Tn W.heap.size (ChR w1.heap.size bt bb ba)) A A' → Only (Tn (W.heap.size + 1 + 1) (StR w1.heap.size (W.heap.size + 1))) V A' := fun A' h => h3.trans (h.mono (fun k hk => ⟨by have := hk.1; omega, fun x => by rcases x with x | x; (exact hk.2 (.inl x)); (have := hk.1; omega)⟩))
        have hpx : mins ++ pre ++ [x] <+: L := by
          obtain ⟨r, hr⟩ := hp
          exact ⟨r ++ rest, by rw [hcut, ← hr]; simp⟩
        obtain ⟨fn, tmps, assign, body, hy, hRd⟩ := hY'.out (mins ++ pre) x A h1 hpx (by omega)
        refine ⟨fn, tmps, assign, body, hy, hRd.mono ?_⟩
        rintro e A' (⟨rfl, k1, k2⟩ | ⟨rfl, k1, k2⟩)
        · exact .inl ⟨rfl, ⟨by rw [← List.append_assoc]; exact k1, h2.only k2, hO A' k2⟩, k2⟩
        · exact .inr ⟨rfl, ⟨⟨_, hpx, k1⟩, hO A' k2⟩, k2⟩
      · rintro A ⟨h1, h2, h3⟩
        exact ⟨h3, h1, h2⟩
      · rintro pre A ⟨h1, h3⟩
        exact ⟨h3, h1⟩
    obtain ⟨_, q0, _⟩ := id hSv.out.ht
    obtain ⟨_, q1, _⟩ := id hSv.out.hb
    obtain ⟨_, q2, _⟩ := id hSv.out.ha
    obtain ⟨_, q3, _⟩ := id hSv.out.hy
    obtain ⟨hsbl, q4, _⟩ := (show Has V sb #[.int .i64 sB, .int .i64 sE, .int .i64 sP] from hsb'.out)
    by_cases hA : b < sB
    · by_cases hB : sB < a
      · obtain ⟨fn, tmps, assign, body, hy, hRd⟩ := hY'.out _ sB V hJv.out (pre_of (b := rmL t (max b sB + 1) (min a sE - 1) sP ++ rest) (by rw [hLr'.out, if_pos ⟨hA, hB⟩]; simp)) (by omega)
        gi_wp2
        refine ⟨fun h => (by cases h), round_any (hRd.mono ?_)⟩
        rintro e w3 (⟨rfl, hJ3, hK3⟩ | ⟨rfl, hJ3, hK3⟩)
        · have hS3 : Hid _ := hSv.out.only hK3
          have hsb3 : Has w3 sb #[.int .i64 sB, .int .i64 sE, .int .i64 sP] := Has.only hsb'.out hK3 (fun x => by have := x.1; omega)
          have hO3 : Hid (Only (Tn (W.heap.size + 1 + 1) (StR w1.heap.size (W.heap.size + 1))) V w3) := hK3.mono (fun k hk => ⟨by have := hk.1; omega, fun x => by rcases x with x | x; (exact hk.2 (.inl x)); (have := hk.1; omega)⟩)
          have hr3 := (hK3.block (W.heap.size + 1 + 1 + 1) (by omega) (fun x => by have := x.1; omega)).trans hr₀
          clear q0 q1 q2 q3 q4 hJv hy hRd
          obtain ⟨_, u0, _⟩ := id hS3.out.ht
          obtain ⟨_, u1, _⟩ := id hS3.out.hb
          obtain ⟨_, u2, _⟩ := id hS3.out.ha
          obtain ⟨_, u4, _⟩ := hsb3
          gi_wp2_with (refine ⟨trivial, fun h => (by cases h), ?_⟩; gi_at_call 45; refine (c28 _ _ _ _).mono ?_; rintro e w4 ⟨rfl, hb4, hz4, g1, g2, g3, g4⟩)
          all_goals
            have hr4 := (hb4.block (W.heap.size + 1 + 1 + 1) (by have := hO3.out.size; omega)).trans hr3
            obtain ⟨I, Ix, R, S, i1, i2, i3, i4, i5, i6, i7, i8, i9, i10⟩ := HT.out (pre.flatMap (scL t b a) ++ [sB]) _ _ w3 w4 (by omega) (by omega) (by rw [hLr'.out, if_pos ⟨hA, hB⟩]; simp) hJ3 hS3.out hO3.out hb4 hz4 g1 g2 g3 g4
            refine inner26 hr4 i1 i2 i3 I Ix i4 i5 i6 i7 i8 ?_ ?_
            · intro a' A hA2
              obtain ⟨j1, j2, j3⟩ := i9 A hA2
              gi_wp2
              exact ⟨by rw [hUz]; exact j1, by show J _ _; rw [hfl'.out, if_pos ⟨hA, hB⟩]; simpa using j2, j3⟩
            · intro a' pr A _ hA2
              obtain ⟨j1, j2⟩ := i10 pr A hA2
              gi_wp2
              exact ⟨by rw [hUz]; exact j1, rfl, j2⟩
        · gi_wp2
          exact ⟨hK3.mono (fun k hk => ⟨by have := hk.1; omega, fun x => by rcases x with x | x; (exact hk.2 (.inl x)); (have := hk.1; omega)⟩), rfl, _, pre_of (b := rmL t (max b sB + 1) (min a sE - 1) sP ++ rest) (by rw [hLr'.out, if_pos ⟨hA, hB⟩]; simp), hJ3⟩
      · have hO3 : Hid (Only (Tn (W.heap.size + 1 + 1) (StR w1.heap.size (W.heap.size + 1))) V V) := Only.refl _ _
        gi_wp2
        refine ⟨fun _ _ => trivial, ?_⟩
        gi_wp2_with (refine ⟨trivial, fun h => (by cases h), ?_⟩; gi_at_call 45; refine (c28 _ _ _ _).mono ?_; rintro e w4 ⟨rfl, hb4, hz4, g1, g2, g3, g4⟩)
        all_goals
          have hr4 := (hb4.block (W.heap.size + 1 + 1 + 1) (by have := hO3.out.size; omega)).trans hr₀
          obtain ⟨I, Ix, R, S, i1, i2, i3, i4, i5, i6, i7, i8, i9, i10⟩ := HT.out (pre.flatMap (scL t b a)) _ _ V w4 (by omega) (by omega) (by rw [hLr'.out, if_neg (by omega : ¬ (b < sB ∧ sB < a))]; simp) hJv.out hSv.out hO3.out hb4 hz4 g1 g2 g3 g4
          refine inner26 hr4 i1 i2 i3 I Ix i4 i5 i6 i7 i8 ?_ ?_
          · intro a' A hA2
            obtain ⟨j1, j2, j3⟩ := i9 A hA2
            gi_wp2
            exact ⟨by rw [hUz]; exact j1, by show J _ _; rw [hfl'.out, if_neg (by omega : ¬ (b < sB ∧ sB < a))]; simpa using j2, j3⟩
          · intro a' pr A _ hA2
            obtain ⟨j1, j2⟩ := i10 pr A hA2
            gi_wp2
            exact ⟨by rw [hUz]; exact j1, rfl, j2⟩
    · have hO3 : Hid (Only (Tn (W.heap.size + 1 + 1) (StR w1.heap.size (W.heap.size + 1))) V V) := Only.refl _ _
      gi_wp2
      refine ⟨fun _ _ => trivial, ?_⟩
      gi_wp2_with (refine ⟨trivial, fun h => (by cases h), ?_⟩; gi_at_call 45; refine (c28 _ _ _ _).mono ?_; rintro e w4 ⟨rfl, hb4, hz4, g1, g2, g3, g4⟩)
      all_goals
        have hr4 := (hb4.block (W.heap.size + 1 + 1 + 1) (by have := hO3.out.size; omega)).trans hr₀
        obtain ⟨I, Ix, R, S, i1, i2, i3, i4, i5, i6, i7, i8, i9, i10⟩ := HT.out (pre.flatMap (scL t b a)) _ _ V w4 (by omega) (by omega) (by rw [hLr'.out, if_neg (by omega : ¬ (b < sB ∧ sB < a))]; simp) hJv.out hSv.out hO3.out hb4 hz4 g1 g2 g3 g4
        refine inner26 hr4 i1 i2 i3 I Ix i4 i5 i6 i7 i8 ?_ ?_
        · intro a' A hA2
          obtain ⟨j1, j2, j3⟩ := i9 A hA2
          gi_wp2
          exact ⟨by rw [hUz]; exact j1, by show J _ _; rw [hfl'.out, if_neg (by omega : ¬ (b < sB ∧ sB < a))]; simpa using j2, j3⟩
        · intro a' pr A _ hA2
          obtain ⟨j1, j2⟩ := i10 pr A hA2
          gi_wp2
          exact ⟨by rw [hUz]; exact j1, rfl, j2⟩
  case done =>
    rintro V ⟨hJv, hSv⟩ hD hz
    gi_wp2
    refine ⟨by simp, .inl ⟨_, _, rfl, run_takeDeferred hD, ?_⟩⟩
    refine ⟨_, results_none rfl _ _ _, ⟨_, rfl⟩, .inl (hJ'.out _ _ _ (by rw [hfin.out]; exact hJv.out) (below_put (.refl _ _) _ (by omega)))⟩
  case stop =>
    rintro c pre V hp ⟨rfl, q, hq, hJp⟩ hD hz
    gi_wp2
    refine ⟨by simp, .inl ⟨_, _, rfl, run_takeDeferred hD, ?_⟩⟩
    refine ⟨_, results_none rfl _ _ _, ⟨_, rfl⟩, .inr ⟨q, hq, hJx'.out _ _ _ hJp (below_put (.refl _ _) _ (by omega))⟩⟩
end Go.Proofs.Ytddphepgcihdbaa
