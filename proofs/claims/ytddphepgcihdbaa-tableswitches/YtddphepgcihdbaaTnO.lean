import Derived.Test.YtddphepgcihdbaaTnI
import Derived.Test.YtddphepgcihdbaaTnN
namespace Go.Proofs.Ytddphepgcihdbaa
open Go.RowKit Go.Shelf
set_option linter.unusedVariables false
set_option linter.unusedSimpArgs false

attribute [local go_sem] Oper.semAt_some
/-- What the iterator over switches keeps: its captured variables, its yield, the slot that is in force. -/
structure SwS (w1 : World) (B nb bt bb ba : Nat) (b a s : Int) (tc : Array Value) (y : Nat) (w : World) : Prop where
  ht : Has w bt tc
  hb : Has w bb #[.int .i64 b]
  ha : Has w ba #[.int .i64 a]
  hy : Has w B #[.func (.yield y) #[] #[]]
  hn : Has w nb #[.int .i64 s]
  bel : Below w1.heap.size w1 w
theorem SwS.only {w1 : World} {B nb bt bb ba : Nat} {b a s : Int} {tc : Array Value} {y : Nat} {w w' : World} (h : SwS w1 B nb bt bb ba b a s tc y w) (hb : Only (Tn B (ChR w1.heap.size bt bb ba)) w w') (hn : B < nb) : SwS w1 B nb bt bb ba b a s tc y w' :=
  ⟨h.ht.only hb (fun x => x.2 (.inr (.inl rfl))), h.hb.only hb (fun x => x.2 (.inr (.inr (.inl rfl)))), h.ha.only hb (fun x => x.2 (.inr (.inr (.inr rfl)))), h.hy.only hb (fun x => by have := x.1; omega), h.hn.only hb (fun x => by have := x.1; omega),
   h.bel.trans ⟨hb.os, hb.tape, hb.output, hb.size, fun k hk => hb.block k (by have := h.bel.size; omega) (fun x => x.2 (.inl hk))⟩⟩
theorem SwS.below {w1 : World} {B nb bt bb ba : Nat} {b a s : Int} {tc : Array Value} {y : Nat} {w w' : World} (h : SwS w1 B nb bt bb ba b a s tc y w) {Z : Nat} (hb : Below Z w w') (h0 : B < Z) (h1 : nb < Z) (h2 : bt < Z) (h3 : bb < Z) (h4 : ba < Z) (h5 : w1.heap.size ≤ Z) : SwS w1 B nb bt bb ba b a s tc y w' :=
  ⟨h.ht.blk hb.size (hb.block _ h2), h.hb.blk hb.size (hb.block _ h3), h.ha.blk hb.size (hb.block _ h4), h.hy.blk hb.size (hb.block _ h0), h.hn.blk hb.size (hb.block _ h1), h.bel.trans (hb.mono h5)⟩
theorem SwS.belW {w1 : World} {B nb bt bb ba : Nat} {b a s : Int} {tc : Array Value} {y : Nat} {w w' : World} (h : SwS w1 B nb bt bb ba b a s tc y w) (hb : Below w.heap.size w w') : SwS w1 B nb bt bb ba b a s tc y w' :=
  h.below hb h.hy.1 h.hn.1 h.ht.1 h.hb.1 h.ha.1 h.bel.size
theorem SwS.put {w1 : World} {B nb bt bb ba : Nat} {b a s : Int} {tc : Array Value} {y : Nat} {w : World} (h : SwS w1 B nb bt bb ba b a s tc y w) (v : Int) (h0 : B ≠ nb) (h2 : bt ≠ nb) (h3 : bb ≠ nb) (h4 : ba ≠ nb) (h5 : w1.heap.size ≤ nb) : SwS w1 B nb bt bb ba b a v tc y (w.setCell ⟨nb, 0, none⟩ (.int .i64 v)) :=
  ⟨h.ht.far h2 _, h.hb.far h3 _, h.ha.far h4 _, h.hy.far h0 _, h.hn.set 0 (by simp) _, h.bel.setCell (by simpa using h5) _⟩
theorem wlk_stay {f : Int → Int} {s0 s x : Int} {pre : List Int} (h : ∀ L, wlk f s0 (pre ++ L) = wlk f s0 pre ++ wlk f s L) (hx : f x = s) : wlk f s0 (pre ++ [x]) = wlk f s0 pre ∧ ∀ L, wlk f s0 (pre ++ [x] ++ L) = wlk f s0 (pre ++ [x]) ++ wlk f s L := by
  have h1 : wlk f s0 (pre ++ [x]) = wlk f s0 pre := by rw [h [x], wlk, if_pos hx, wlk, List.append_nil]
  refine ⟨h1, fun L => ?_⟩
  rw [h1, List.append_assoc, h, List.singleton_append, wlk, if_pos hx]
theorem wlk_turn {f : Int → Int} {s0 s x : Int} {pre : List Int} (h : ∀ L, wlk f s0 (pre ++ L) = wlk f s0 pre ++ wlk f s L) (hx : f x ≠ s) : wlk f s0 (pre ++ [x]) = wlk f s0 pre ++ [(x, f x)] ∧ ∀ L, wlk f s0 (pre ++ [x] ++ L) = wlk f s0 (pre ++ [x]) ++ wlk f (f x) L := by
  have h1 : wlk f s0 (pre ++ [x]) = wlk f s0 pre ++ [(x, f x)] := by rw [h [x], wlk, if_neg hx, wlk]
  refine ⟨h1, fun L => ?_⟩
  rw [h1, List.append_assoc, h, List.singleton_append, wlk, if_neg hx]
  simp
set_option maxRecDepth 100000 in
set_option maxHeartbeats 8000000 in
theorem sw1_seq (n : Nat) (t : Tt) (b a : Int) (bt bb ba : Nat) (aD aS aX aH : Option Addr) (cD cS cX cH : Nat) (w1 W : World) (hR : TR w1 t (.slice aD t.D.length cD) (.slice aS t.S.length cS) (.slice aX t.X.length cX) (.slice aH t.H.length cH)) (he : t.err = 0)
    (b0 : 0 ≤ b) (a1 : a ≤ 210379679) (hba2 : b < a) (hspan : a - b ≤ 44640) (hbel : Below w1.heap.size w1 W)
    (hbt : Has W bt #[.string t.nm, .slice aD t.D.length cD, .int .i64 t.w0, .int .i64 t.w1, .int .i64 t.w2, .int .i64 t.w3, .int .i64 t.w4, .int .i64 t.w5, .int .i64 t.w6, .slice aS t.S.length cS, .slice aX t.X.length cX, .slice aH t.H.length cH])
    (hbb : Has W bb #[.int .i64 b]) (hba : Has W ba #[.int .i64 a]) :
    SeqAt n 21 #[.pointer (some ⟨bt, 0, none⟩), .pointer (some ⟨bb, 0, none⟩), .pointer (some ⟨ba, 0, none⟩)] (fun p : Int × Int => #[.int .i64 p.1, .int .i64 p.2]) (prL t b a) (ChR w1.heap.size bt bb ba) W := by
  intro y J Jx hJ hJx hY h0
  have hJ' : Hid _ := hJ
  have hJx' : Hid _ := hJx
  have hY' : Hid _ := hY
  have h0' : Hid _ := h0
  clear hJ hY hJx h0
  have hsz := hbel.size
  have c12b := fun V (hb : Below w1.heap.size w1 V) => callsIn_wide (n := n - 1) |>.2 (slotAt_any b b0 (by omega) t aD aS aX aH cD cS cX cH V (hR.below hb) he)
  have c12' : Hid _ := fun (x : Int) (x0 : 0 ≤ x) (x1 : x ≤ 210379679) V (hb : Below w1.heap.size w1 V) => callsIn_wide (n := n - 1 - 1 - 1) |>.2 (slotAt_any x x0 x1 t aD aS aX aH cD cS cX cH V (hR.below hb) he)
  have c13 := fun b a V => callsIn_wide (n := n - 1) |>.2 (changes_any (.string t.nm) (.slice aD t.D.length cD) (.int .i64 t.w0) (.int .i64 t.w1) (.int .i64 t.w2) (.int .i64 t.w3) (.int .i64 t.w4) (.int .i64 t.w5) (.int .i64 t.w6) (.slice aS t.S.length cS) (.slice aX t.X.length cX) (.slice aH t.H.length cH) b a V)
  have hseq : Hid (∀ (bt bb ba : Nat) (V : World), Below w1.heap.size w1 V → Has V bt #[.string t.nm, .slice aD t.D.length cD, .int .i64 t.w0, .int .i64 t.w1, .int .i64 t.w2, .int .i64 t.w3, .int .i64 t.w4, .int .i64 t.w5, .int .i64 t.w6, .slice aS t.S.length cS, .slice aX t.X.length cX, .slice aH t.H.length cH] → Has V bb #[.int .i64 b] → Has V ba #[.int .i64 a] → SeqAt (n - 1) 43 #[.pointer (some ⟨bt, 0, none⟩), .pointer (some ⟨bb, 0, none⟩), .pointer (some ⟨ba, 0, none⟩)] (fun m => #[.int .i64 m]) (chL t b a) (ChR w1.heap.size bt bb ba) V) :=
    fun bt bb ba V h1 h2 h3 h4 => ch1_seq (n - 1) t b a bt bb ba aD aS aX aH cD cS cX cH w1 V hR he b0 (by omega) (by omega) (by omega) h1 h2 h3 h4
  have hcm : Hid (∀ x ∈ chL t b a, 0 ≤ x ∧ x ≤ 210379679) := fun x hx => by have := chL_mem hx; omega
  have hpl : Hid (prL t b a = (b, slF t b) :: wlk (slF t) (slF t b) (chL t b a)) := by
    show _ = _
    have e : a = b + 1 + ((a - b - 1).toNat : Int) := by omega
    have hs : spB b a = true := by simp only [spB, Bool.and_eq_true, decide_eq_true_eq]; omega
    unfold prL
    rw [if_pos ⟨he, hs⟩, ← wlk_ch he b0 (a - b - 1).toNat (by omega), ← e]
  clear hR
  generalize chL t b a = L at *
  generalize prL t b a = PL at *
  have hf : Hid (slF t b = slF t b) := rfl
  generalize hs0 : slF t b = s0 at *
  clear hs0 hf
  refine callsIn_of_wp_marks Try.func21 rfl trivial ?_ rfl
  simp only [Try.ntmps21, List.size_toArray, List.length_cons, List.length_nil, Nat.reduceAdd, Nat.reduceSub, Array.replicate_succ, Array.replicate_zero, List.push_toArray, List.append_toArray, List.nil_append, List.cons_append]
  obtain ⟨hbt1, q0, _⟩ := id ((hbt).alloc (.cells #[.func (.yield y) #[] #[]] 62))
  obtain ⟨hbb1, q1, _⟩ := id ((hbb).alloc (.cells #[.func (.yield y) #[] #[]] 62))
  have hy0 : Hid (Has (W.alloc (.cells #[.func (.yield y) #[] #[]] 62)) W.heap.size #[.func (.yield y) #[] #[]]) := Has.new _ _ _ rfl
  gi_wp2_with (refine ⟨trivial, fun h => (by cases h), ?_⟩; gi_at_call 22; refine (c12b _ (hbel.trans ((bel1 (o := .cells #[.func (.yield y) #[] #[]] 62)).mono hsz))).mono ?_; rintro e w2 ⟨rfl, hb2⟩; have S0 : SwS w1 W.heap.size w2.heap.size bt bb ba b a s0 #[.string t.nm, .slice aD t.D.length cD, .int .i64 t.w0, .int .i64 t.w1, .int .i64 t.w2, .int .i64 t.w3, .int .i64 t.w4, .int .i64 t.w5, .int .i64 t.w6, .slice aS t.S.length cS, .slice aX t.X.length cX, .slice aH t.H.length cH] y (w2.alloc (.cells #[.int .i64 s0] 3)) := ⟨((hbt.alloc _).below hb2).alloc _, ((hbb.alloc _).below hb2).alloc _, ((hba.alloc _).below hb2).alloc _, (hy0.out.below hb2).alloc _, Has.new _ _ _ rfl, (hbel.trans ((belT bel1 hb2).mono hsz)).alloc (by have := hb2.size; simp at this; omega) _⟩; have hJ0 := hJ'.out _ _ _ h0'.out (belT (belT (bel1 (o := .cells #[.func (.yield y) #[] #[]] 62)) hb2) (bel1 (o := .cells #[.int .i64 s0] 3))); obtain ⟨fn, tmps, assign, body, hy, hRd⟩ := hY'.out [] (b, s0) (w2.alloc (.cells #[.int .i64 s0] 3)) hJ0 ⟨_, by rw [hpl.out]; rfl⟩ (by have := hb2.size; simp at this ⊢; omega); dsimp only at hy; obtain ⟨_, u0, _⟩ := id S0.hy; obtain ⟨_, u1, _⟩ := id S0.hb; obtain ⟨_, u2, _⟩ := id S0.hn)
  have hbt2 : bt < W.heap.size := hbt.1
  have hbb2 : bb < W.heap.size := hbb.1
  have hba3 : ba < W.heap.size := hba.1
  clear q0 q1 u0 u1 u2 hJ0 hy0 c12b hbt hbb hba
  have hS0 : Hid _ := S0
  have hz2 : W.heap.size + 1 ≤ w2.heap.size := by have := hb2.size; simpa using this
  refine ⟨fun h => (by cases h), hRd.mono ?_⟩
  clear hRd hy S0
  rintro e w3 (⟨rfl, hJ3, hK3⟩ | ⟨rfl, hJ3, hK3⟩)
  · have S1 := hS0.out.only hK3 (by omega)
    have hJ3' : Hid _ := hJ3
    obtain ⟨l0, u0, _⟩ := id S1.ht
    obtain ⟨l1, u1, _⟩ := id S1.hb
    obtain ⟨l2, u2, _⟩ := id S1.ha
    have hz3 : w2.heap.size + 1 ≤ w3.heap.size := by have := hK3.size; simpa using this
    have S1' : Hid _ := S1
    clear S1 hJ3
    gi_wp2_with (refine ⟨trivial, fun h => (by cases h), ?_⟩; gi_at_call 23; refine (c13 _ _ _).mono ?_; rintro e w4 ⟨rfl, hb4, hz4, g1, g2, g3⟩)
    clear u0 u1 u2 c13
    have S2 : Hid (SwS w1 W.heap.size w2.heap.size bt bb ba b a s0 #[.string t.nm, .slice aD t.D.length cD, .int .i64 t.w0, .int .i64 t.w1, .int .i64 t.w2, .int .i64 t.w3, .int .i64 t.w4, .int .i64 t.w5, .int .i64 t.w6, .slice aS t.S.length cS, .slice aX t.X.length cX, .slice aH t.H.length cH] y w4) := S1'.out.belW hb4
    have J2 : Hid (J [(b, s0)] w4) := hJ'.out _ _ _ hJ3'.out (hb4.mono (by omega))
    have hz4' : Hid (w4.heap.size = w3.heap.size + 3) := hz4
    have hz4a : w3.heap.size + 3 ≤ w4.heap.size := by omega
    clear hz4
    refine range_out (n := n) (gf := 43) (enc := fun m : Int => #[.int .i64 m]) (L := L) (R := ChR w1.heap.size w3.heap.size (w3.heap.size + 1) (w3.heap.size + 1 + 1)) rfl (enters_of Try.func43 (by kernel_rfl) rfl) (fun _ => rfl) (fun V hV => hseq.out _ _ _ V (S2.out.bel.trans (hV.mono (by omega))) (g1.below hV) (g2.below hV) (g3.below hV)) (fun k hk => by rcases hk with h | h | h | h <;> omega)
      (fun pre A => ∃ s, Hid (∀ M, wlk (slF t) s0 (pre ++ M) = wlk (slF t) s0 pre ++ wlk (slF t) s M) ∧ Hid (J ((b, s0) :: wlk (slF t) s0 pre) A) ∧ Hid (SwS w1 W.heap.size w2.heap.size bt bb ba b a s #[.string t.nm, .slice aD t.D.length cD, .int .i64 t.w0, .int .i64 t.w1, .int .i64 t.w2, .int .i64 t.w3, .int .i64 t.w4, .int .i64 t.w5, .int .i64 t.w6, .slice aS t.S.length cS, .slice aX t.X.length cX, .slice aH t.H.length cH] y A)) (fun c pre A => c = .ret ∧ ∃ q, q <+: PL ∧ Jx q A)
      (fun x a' A => a' = { tmps := #[.func (.yield y) #[] #[], .pointer (some ⟨bt, 0, none⟩), .pointer (some ⟨bb, 0, none⟩), .pointer (some ⟨ba, 0, none⟩), .pointer (some ⟨W.heap.size, 0, none⟩), .pointer (some ⟨w2.heap.size, 0, none⟩), .int .i64 x, undef, .agg #[.string t.nm, .slice aD t.D.length cD, .int .i64 t.w0, .int .i64 t.w1, .int .i64 t.w2, .int .i64 t.w3, .int .i64 t.w4, .int .i64 t.w5, .int .i64 t.w6, .slice aS t.S.length cS, .slice aX t.X.length cX, .slice aH t.H.length cH], .int .i64 b, .int .i64 s0, .func (.yield y) #[] #[], .int .i64 b, .int .i64 s0, .bool true, .bool false, .agg #[.string t.nm, .slice aD t.D.length cD, .int .i64 t.w0, .int .i64 t.w1, .int .i64 t.w2, .int .i64 t.w3, .int .i64 t.w4, .int .i64 t.w5, .int .i64 t.w6, .slice aS t.S.length cS, .slice aX t.X.length cX, .slice aH t.H.length cH], .int .i64 b, .int .i64 a, .func (.func 43) #[] #[.pointer (some ⟨w3.heap.size, 0, none⟩), .pointer (some ⟨w3.heap.size + 1, 0, none⟩), .pointer (some ⟨w3.heap.size + 1 + 1, 0, none⟩)], .int .i64 x, undef, undef, undef, undef, undef, undef, undef, undef, undef, undef, undef, undef], defers := [] }) ?hI ?hIx (fun _ _ _ _ h _ => h) ⟨s0, fun M => by simp [wlk], J2, S2⟩ ?assign ?body ?done ?stop
    case hI =>
      rintro pre A B ⟨s, h1, h2, h3⟩ hb
      exact ⟨s, h1, hJ'.out _ _ _ h2.out (hb.mono (by omega)), h3.out.below hb (by omega) (by omega) (by omega) (by omega) (by omega) (by omega)⟩
    case hIx =>
      rintro c pre A B ⟨hc, q, hq, h1⟩ hb
      exact ⟨hc, q, hq, hJx'.out _ _ _ h1 (hb.mono (by omega))⟩
    case assign =>
      intro l pre x V K hi hz hK
      gi_wp2
      exact hK _ _ (Below.refl _ _) rfl
    case body =>
      rintro pre x a' A ⟨s, hi1, hi2, hi3⟩ rfl hp hz ⟨r₀, hr₀⟩
      have hx := hcm.out x (by obtain ⟨r, hr⟩ := hp; rw [← hr]; simp)
      have k12 := c12'.out x hx.1 hx.2 A hi3.out.bel
      obtain ⟨_, q0, _⟩ := id hi3.out.ht
      have hOm : ∀ (A1 A2 : World), Only (Tn W.heap.size (ChR w1.heap.size bt bb ba)) A1 A2 → Only (Tn w4.heap.size (ChR w1.heap.size w3.heap.size (w3.heap.size + 1) (w3.heap.size + 1 + 1))) A1 A2 := fun A1 A2 h => h.mono (fun k hk => ⟨by have := hk.1; omega, fun x => by have h1 := hk.1; rcases x with x | x | x | x; (exact hk.2 (.inl x)); all_goals omega⟩)
      have hOm' : Hid _ := hOm
      clear hOm
      by_cases hne : slF t x = s
      · obtain ⟨e1, e2⟩ := wlk_stay hi1.out hne
        have e1' : Hid _ := e1
        have e2' : Hid _ := e2
        clear e1 e2
        have ht : (slF t x == s) = true := by rw [hne]; simp
        generalize slF t x = sx at *
        gi_wp2_with (refine ⟨trivial, fun h => (by cases h), ?_⟩; gi_at_call 22; refine (CallsIn.inRound _ k12).mono ?_; rintro e w5 ⟨rfl, hb5⟩; have hS5 := hi3.out.belW hb5; obtain ⟨_, q1, _⟩ := id hS5.hn)
        exact ⟨Only.of_below hb5, s, e2', by show J _ _; rw [e1'.out]; exact hJ'.out _ _ _ hi2.out (hb5.mono (by omega)), hS5⟩
      · obtain ⟨e1, e2⟩ := wlk_turn hi1.out hne
        have e1' : Hid _ := e1
        have e2' : Hid _ := e2
        clear e1 e2
        have hpre : Hid (((b, s0) :: wlk (slF t) s0 pre) ++ [(x, slF t x)] <+: PL) := by
          obtain ⟨r, hr⟩ := hp
          refine ⟨wlk (slF t) (slF t x) r, ?_⟩
          rw [hpl.out, ← hr, e2'.out, e1'.out]
          simp
        have ht : (slF t x == s) = false := beq_eq_false_iff_ne.2 hne
        have hne' : Hid (slF t x ≠ s) := hne
        clear hne
        generalize hsx : slF t x = sx at *
        have hsx' : Hid _ := hsx
        clear hsx
        gi_wp2_with (refine ⟨trivial, fun h => (by cases h), ?_⟩; gi_at_call 22; refine (CallsIn.inRound _ k12).mono ?_; rintro e w5 ⟨rfl, hb5⟩; have hS5 := hi3.out.belW hb5; have hJ5 := hJ'.out _ _ _ hi2.out (hb5.mono (by omega)); obtain ⟨fn, tmps, assign, body, hy, hRd⟩ := hY'.out _ (x, sx) w5 hJ5 hpre.out (by have := hb5.size; omega); dsimp only at hy; obtain ⟨_, q1, _⟩ := id hS5.hn; obtain ⟨_, q2, _⟩ := id hS5.hy)
        refine ⟨fun h => (by cases h), round_any (hRd.mono ?_)⟩
        rintro e w6 (⟨rfl, hJ6, hK6⟩ | ⟨rfl, hJ6, hK6⟩)
        · have hS6 := hS5.only hK6 (by omega)
          obtain ⟨_, v1, v2⟩ := id hS6.hn
          clear q0 q1 q2 hy hRd
          gi_wp2
          refine ⟨((Only.of_below hb5).trans (hOm'.out _ _ hK6)).set (b := w2.heap.size) ⟨by omega, fun h => by rcases h with h | h | h | h <;> omega⟩ _, sx, ?_, ?_, hS6.put sx (by omega) (by omega) (by omega) (by omega) (by omega)⟩
          · have := e2'.out; exact this
          · show J _ _
            rw [e1'.out]
            exact hJ'.out _ _ _ hJ6 ((Below.refl _ _).setCell (p := ⟨w2.heap.size, 0, none⟩) (by show W.heap.size ≤ w2.heap.size; omega) _)
        · gi_wp2
          exact ⟨(Only.of_below hb5).trans (hOm'.out _ _ hK6), rfl, _, hpre.out, hJ6⟩
    case done =>
      rintro V ⟨s, h1, h2, h3⟩ hD hz
      gi_wp2
      refine ⟨by simp, .inl ⟨_, _, rfl, run_takeDeferred hD, ?_⟩⟩
      refine ⟨_, results_none rfl _ _ _, ⟨_, rfl⟩, .inl (hJ'.out _ _ _ (by rw [hpl.out]; exact h2.out) (below_put (.refl _ _) _ (by omega)))⟩
    case stop =>
      rintro c pre V hp ⟨rfl, q, hq, hJp⟩ hD hz
      gi_wp2
      refine ⟨by simp, .inl ⟨_, _, rfl, run_takeDeferred hD, ?_⟩⟩
      refine ⟨_, results_none rfl _ _ _, ⟨_, rfl⟩, .inr ⟨q, hq, hJx'.out _ _ _ hJp (below_put (.refl _ _) _ (by omega))⟩⟩
  · gi_wp2
    refine ⟨_, results_none rfl _ _ _, ⟨_, rfl⟩, .inr ⟨_, ⟨_, by rw [hpl.out]; rfl⟩, hJ3⟩⟩
/-- Of no span or of no sound table nothing is given. -/
theorem sw0_seq (n : Nat) (R : Nat → Prop) (W : World) : SeqAt n 19 #[] (fun p : Int × Int => #[.int .i64 p.1, .int .i64 p.2]) [] R W := by
  intro y J Jx hJ hJx hY h0
  refine callsIn_of_wp Try.func19 rfl trivial ?_ rfl
  simp only [Try.ntmps19, List.size_toArray, List.length_cons, List.length_nil, Nat.reduceAdd, Nat.reduceSub, Array.replicate_succ, Array.replicate_zero, List.push_toArray, List.append_toArray, List.nil_append, List.cons_append]
  gi_wp2
  go_end0
  exact ⟨⟨_, rfl⟩, .inl h0⟩
theorem span_any (b a : Int) (hb : -9223372036854775808 ≤ b ∧ b ≤ 9223372036854775807) (ha : -9223372036854775808 ≤ a ∧ a ≤ 9223372036854775807) (w : World) : Calls Try.prog 17 #[.int .i64 b, .int .i64 a] w fun e w' => e = .returned (.bool (spB b a)) ∧ w' = w := by
  go_enter Try.func17, Try.ntmps17
  go_wp2
  all_goals
    go_ret
    refine ⟨ret_bool (Bool.eq_iff_iff.2 ?_), rfl⟩
    simp only [spB, Bool.and_eq_true, decide_eq_true_eq, Bool.false_eq_true, false_iff]
    omega
end Go.Proofs.Ytddphepgcihdbaa
