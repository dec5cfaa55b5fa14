import Derived.Test.YtddphepgcihdbaaTvD
import Derived.Test.YtddphepgcihdbaaTnO
namespace Go.Proofs.Ytddphepgcihdbaa
open Go.RowKit Go.Shelf
set_option linter.unusedVariables false
set_option linter.unusedSimpArgs false

attribute [local go_sem] Oper.semAt_some
structure SwSv (S : Nat → Prop) (w1 : World) (B nb bt bb ba : Nat) (b a s : Int) (tc : Array Value) (y : Nat) (w : World) : Prop where
  ht : Has w bt tc
  hb : Has w bb #[.int .i64 b]
  ha : Has w ba #[.int .i64 a]
  hy : Has w B #[.func (.yield y) #[] #[]]
  hn : Has w nb #[.int .i64 s]
  bel : Bs S w1 w
theorem SwSv.below {S : Nat → Prop} {w1 : World} {B nb bt bb ba : Nat} {b a s : Int} {tc : Array Value} {y : Nat} {w w' : World} (h : SwSv S w1 B nb bt bb ba b a s tc y w) {Z : Nat} (hb : Below Z w w') (h0 : B < Z) (h1 : nb < Z) (h2 : bt < Z) (h3 : bb < Z) (h4 : ba < Z) (h5 : w1.heap.size ≤ Z) : SwSv S w1 B nb bt bb ba b a s tc y w' :=
  ⟨h.ht.blk hb.size (hb.block _ h2), h.hb.blk hb.size (hb.block _ h3), h.ha.blk hb.size (hb.block _ h4), h.hy.blk hb.size (hb.block _ h0), h.hn.blk hb.size (hb.block _ h1), h.bel.belZ hb h5⟩
theorem SwSv.belW {S : Nat → Prop} {w1 : World} {B nb bt bb ba : Nat} {b a s : Int} {tc : Array Value} {y : Nat} {w w' : World} (h : SwSv S w1 B nb bt bb ba b a s tc y w) (hb : Below w.heap.size w w') : SwSv S w1 B nb bt bb ba b a s tc y w' :=
  h.below hb h.hy.1 h.hn.1 h.ht.1 h.hb.1 h.ha.1 h.bel.size
theorem SwSv.put {S : Nat → Prop} {w1 : World} {B nb bt bb ba : Nat} {b a s : Int} {tc : Array Value} {y : Nat} {w : World} (h : SwSv S w1 B nb bt bb ba b a s tc y w) (v : Int) (h0 : B ≠ nb) (h2 : bt ≠ nb) (h3 : bb ≠ nb) (h4 : ba ≠ nb) (h5 : w1.heap.size ≤ nb) : SwSv S w1 B nb bt bb ba b a v tc y (w.setCell ⟨nb, 0, none⟩ (.int .i64 v)) :=
  ⟨h.ht.far h2 _, h.hb.far h3 _, h.ha.far h4 _, h.hy.far h0 _, h.hn.set 0 (by simp) _, h.bel.only ((Only.refl (fun k => k = nb) w).set rfl _) (fun k hk e => by have := h.bel.lt k hk; omega)⟩
theorem SwSv.onlyU {S : Nat → Prop} {w1 : World} {B nb bt bb ba : Nat} {b a s : Int} {tc : Array Value} {y : Nat} {w w' : World} {U : Nat → Prop} (h : SwSv S w1 B nb bt bb ba b a s tc y w) (hb : Only (Tu B (ChRv S bt bb ba) U) w w') (hN : NU (fun k => ChRv S bt bb ba k ∨ k = B ∨ k = nb) U) (hn : B < nb := by omega) : SwSv S w1 B nb bt bb ba b a s tc y w' := by
  have hN1 : NU (ChRv S bt bb ba) U := fun k hk => hN k (.inl hk)
  have hN2 : ∀ k, B ≤ k → (k = B ∨ k = nb) → ¬ Tu B (ChRv S bt bb ba) U k := fun k h1 h2 x => x.elim (fun x => by have := x.1; omega) (hN k (.inr h2))
  exact ⟨h.ht.only hb (nTu (.inr (.inl rfl)) hN1), h.hb.only hb (nTu (.inr (.inr (.inl rfl))) hN1), h.ha.only hb (nTu (.inr (.inr (.inr rfl))) hN1), h.hy.only hb (hN2 _ (by omega) (.inl rfl)), h.hn.only hb (hN2 _ (by omega) (.inr rfl)),
    h.bel.only hb (fun k hk => nTu (.inl hk) hN1)⟩
theorem SwSv.belowI {S : Nat → Prop} {w1 : World} {B nb bt bb ba : Nat} {b a s : Int} {tc : Array Value} {y : Nat} {w w' : World} {U : Nat → Prop} (h : SwSv S w1 B nb bt bb ba b a s tc y w) {Z : Nat} (hb : Only (It Z U) w w') (h0 : B < Z) (h1 : nb < Z) (h2 : bt < Z) (h3 : bb < Z) (h4 : ba < Z) (h5 : w1.heap.size ≤ Z) : SwSv S w1 B nb bt bb ba b a s tc y w' := by
  have hk : ∀ k, k < Z → ¬ It Z U k := fun k h x => by have := x.1; omega
  exact ⟨h.ht.only hb (hk _ h2), h.hb.only hb (hk _ h3), h.ha.only hb (hk _ h4), h.hy.only hb (hk _ h0), h.hn.only hb (hk _ h1),
    h.bel.only hb (fun k hk2 => hk _ (by have := h.bel.lt k hk2; omega))⟩
set_option maxRecDepth 100000 in
set_option maxHeartbeats 8000000 in
theorem sw1_v (n : Nat) (t : Tt) (b a : Int) (bt bb ba : Nat) (aD aS aX aH : Option Addr) (cD cS cX cH : Nat) (S : Nat → Prop) (w1 W : World) (hT : ∀ V, Bs S w1 V → TR V t (.slice aD t.D.length cD) (.slice aS t.S.length cS) (.slice aX t.X.length cX) (.slice aH t.H.length cH)) (he : t.err = 0)
    (b0 : 0 ≤ b) (a1 : a ≤ 210379679) (hba2 : b < a) (hspan : a - b ≤ 44640) (hbel : Bs S w1 W)
    (hbt : Has W bt #[.string t.nm, .slice aD t.D.length cD, .int .i64 t.w0, .int .i64 t.w1, .int .i64 t.w2, .int .i64 t.w3, .int .i64 t.w4, .int .i64 t.w5, .int .i64 t.w6, .slice aS t.S.length cS, .slice aX t.X.length cX, .slice aH t.H.length cH])
    (hbb : Has W bb #[.int .i64 b]) (hba : Has W ba #[.int .i64 a]) :
    SeqU n 21 #[.pointer (some ⟨bt, 0, none⟩), .pointer (some ⟨bb, 0, none⟩), .pointer (some ⟨ba, 0, none⟩)] (fun p : Int × Int => #[.int .i64 p.1, .int .i64 p.2]) (prL t b a) (ChRv S bt bb ba) W := by
  intro y J Jx hJU hJ hJx hY U0 hN0 h0
  have hJU' : Hid _ := hJU
  have hN0' : Hid _ := hN0
  have hU0 : Hid _ := hJU _ _ _ h0
  have hCB : Hid (∀ k, ChRv S bt bb ba k → k < W.heap.size) := by
    have h1 := hbel.size
    have h2 := hbt.1
    have h3 := hbb.1
    have h4 := hba.1
    intro k hk
    rcases hk with h | h | h | h
    · have := hbel.lt k h; omega
    all_goals omega
  have hJ' : Hid _ := hJ
  have hJx' : Hid _ := hJx
  have hY' : Hid _ := hY
  have h0' : Hid _ := h0
  clear hJ hY hJx h0 hJU hN0
  have hsz := hbel.size
  have c12b := fun V (hb : Bs S w1 V) => callsIn_wide (n := n - 1) |>.2 (slotAt_any b b0 (by omega) t aD aS aX aH cD cS cX cH V (hT V hb) he)
  have c12' : Hid _ := fun (x : Int) (x0 : 0 ≤ x) (x1 : x ≤ 210379679) V (hb : Bs S w1 V) => callsIn_wide (n := n - 1 - 1 - 1) |>.2 (slotAt_any x x0 x1 t aD aS aX aH cD cS cX cH V (hT V hb) he)
  have c13 := fun b a V => callsIn_wide (n := n - 1) |>.2 (changes_any (.string t.nm) (.slice aD t.D.length cD) (.int .i64 t.w0) (.int .i64 t.w1) (.int .i64 t.w2) (.int .i64 t.w3) (.int .i64 t.w4) (.int .i64 t.w5) (.int .i64 t.w6) (.slice aS t.S.length cS) (.slice aX t.X.length cX) (.slice aH t.H.length cH) b a V)
  have hseq : Hid (∀ (bt bb ba : Nat) (V : World), Bs S w1 V → Has V bt #[.string t.nm, .slice aD t.D.length cD, .int .i64 t.w0, .int .i64 t.w1, .int .i64 t.w2, .int .i64 t.w3, .int .i64 t.w4, .int .i64 t.w5, .int .i64 t.w6, .slice aS t.S.length cS, .slice aX t.X.length cX, .slice aH t.H.length cH] → Has V bb #[.int .i64 b] → Has V ba #[.int .i64 a] → SeqU (n - 1) 43 #[.pointer (some ⟨bt, 0, none⟩), .pointer (some ⟨bb, 0, none⟩), .pointer (some ⟨ba, 0, none⟩)] (fun m => #[.int .i64 m]) (chL t b a) (ChRv S bt bb ba) V) :=
    fun bt bb ba V h1 h2 h3 h4 => ch1_v (n - 1) t b a bt bb ba aD aS aX aH cD cS cX cH S w1 V hT he b0 (by omega) (by omega) (by omega) h1 h2 h3 h4
  have hcm : Hid (∀ x ∈ chL t b a, 0 ≤ x ∧ x ≤ 210379679) := fun x hx => by have := chL_mem hx; omega
  have hpl : Hid (prL t b a = (b, slF t b) :: wlk (slF t) (slF t b) (chL t b a)) := by
    show _ = _
    have e : a = b + 1 + ((a - b - 1).toNat : Int) := by omega
    have hs : spB b a = true := by simp only [spB, Bool.and_eq_true, decide_eq_true_eq]; omega
    unfold prL
    rw [if_pos ⟨he, hs⟩, ← wlk_ch he b0 (a - b - 1).toNat (by omega), ← e]
  clear hT
  generalize chL t b a = L at *
  generalize prL t b a = PL at *
  have hf : Hid (slF t b = slF t b) := rfl
  generalize hs0 : slF t b = s0 at *
  clear hs0 hf
  refine callsIn_of_wp_marks Try.func21 rfl trivial ?_ rfl
  simp only [Try.ntmps21, List.size_toArray, List.length_cons, List.length_nil, Nat.reduceAdd, Nat.reduceSub, Array.replicate_succ, Array.replicate_zero, List.push_toArray, List.append_toArray, List.nil_append, List.cons_append]
  obtain ⟨hbt1, q0, _⟩ := id ((hbt).alloc (.cells #[.func (.yield y) #[] #[]] 62))
  obtain ⟨hbb1, q1, _⟩ := id ((hbb).alloc (.cells #[.func (.yield y) #[] #[]] 62))
  have hy0 : Hid (Has (W.alloc (.cells #[.func (.yield y) #[] #[]] 62)) W.heap.size #[.func (.yield y) #[] #[]]) := Has.new _ _ _ rfl
  gi_wp2_with (refine ⟨trivial, fun h => (by cases h), ?_⟩; gi_at_call 22; refine (c12b _ (hbel.below (bel1 (o := .cells #[.func (.yield y) #[] #[]] 62)))).mono ?_; rintro e w2 ⟨rfl, hb2⟩; have S0 : SwSv S w1 W.heap.size w2.heap.size bt bb ba b a s0 #[.string t.nm, .slice aD t.D.length cD, .int .i64 t.w0, .int .i64 t.w1, .int .i64 t.w2, .int .i64 t.w3, .int .i64 t.w4, .int .i64 t.w5, .int .i64 t.w6, .slice aS t.S.length cS, .slice aX t.X.length cX, .slice aH t.H.length cH] y (w2.alloc (.cells #[.int .i64 s0] 3)) := ⟨((hbt.alloc _).below hb2).alloc _, ((hbb.alloc _).below hb2).alloc _, ((hba.alloc _).below hb2).alloc _, (hy0.out.below hb2).alloc _, Has.new _ _ _ rfl, (hbel.below (belT bel1 hb2)).below bel1⟩; have hJ0 := hJ'.out _ _ _ _ h0'.out (Only.of_below (belT (belT (bel1 (o := .cells #[.func (.yield y) #[] #[]] 62)) hb2) (bel1 (o := .cells #[.int .i64 s0] 3)))); obtain ⟨fn, tmps, assign, body, hy, hRd⟩ := hY'.out [] (b, s0) U0 (w2.alloc (.cells #[.int .i64 s0] 3)) hJ0 ⟨_, by rw [hpl.out]; rfl⟩ (by have := hb2.size; simp at this ⊢; omega); dsimp only at hy; obtain ⟨_, u0, _⟩ := id S0.hy; obtain ⟨_, u1, _⟩ := id S0.hb; obtain ⟨_, u2, _⟩ := id S0.hn)
  have hbt2 : bt < W.heap.size := hbt.1
  have hbb2 : bb < W.heap.size := hbb.1
  have hba3 : ba < W.heap.size := hba.1
  clear q0 q1 u0 u1 u2 hJ0 hy0 c12b hbt hbb hba
  have hS0 : Hid _ := S0
  have hz2 : W.heap.size + 1 ≤ w2.heap.size := by have := hb2.size; simpa using this
  have hNS0 : Hid (NU (fun k => ChRv S bt bb ba k ∨ k = W.heap.size ∨ k = w2.heap.size) U0) := fun k hk hu => by
    rcases hk with h | h | h
    · exact hN0'.out k h hu
    · have := hU0.out k hu; omega
    · have := hU0.out k hu; omega
  refine ⟨fun h => (by cases h), hRd.mono ?_⟩
  clear hRd hy S0
  rintro e w3 ⟨U3, hg3, hK3, ⟨rfl, hJ3⟩ | ⟨rfl, hJ3⟩⟩
  · have S1 := hS0.out.onlyU hK3 hNS0.out
    have hN3 : Hid (NU (fun k => ChRv S bt bb ba k ∨ k = W.heap.size ∨ k = w2.heap.size) U3) := hNS0.out.gr hg3 (fun k hk => by simp; rcases hk with h | h | h; (have := hCB.out k h; omega); omega; omega)
    have hU3 : Hid _ := hJU'.out _ _ _ hJ3
    have hJ3' : Hid _ := hJ3
    obtain ⟨l0, u0, _⟩ := id S1.ht
    obtain ⟨l1, u1, _⟩ := id S1.hb
    obtain ⟨l2, u2, _⟩ := id S1.ha
    have hz3 : w2.heap.size + 1 ≤ w3.heap.size := by have := hK3.size; simpa using this
    have S1' : Hid _ := S1
    clear S1 hJ3
    gi_wp2_with (refine ⟨trivial, fun h => (by cases h), ?_⟩; gi_at_call 23; refine (c13 _ _ _).mono ?_; rintro e w4 ⟨rfl, hb4, hz4, g1, g2, g3⟩)
    clear u0 u1 u2 c13
    have S2 : Hid (SwSv S w1 W.heap.size w2.heap.size bt bb ba b a s0 #[.string t.nm, .slice aD t.D.length cD, .int .i64 t.w0, .int .i64 t.w1, .int .i64 t.w2, .int .i64 t.w3, .int .i64 t.w4, .int .i64 t.w5, .int .i64 t.w6, .slice aS t.S.length cS, .slice aX t.X.length cX, .slice aH t.H.length cH] y w4) := S1'.out.belW hb4
    have J2 : Hid (J [(b, s0)] U3 w4) := hJ'.out _ _ _ _ hJ3'.out (Only.of_below hb4)
    have hz4' : Hid (w4.heap.size = w3.heap.size + 3) := hz4
    have hz4a : w3.heap.size + 3 ≤ w4.heap.size := by omega
    clear hz4
    refine rangeU_out (n := n) (gf := 43) (enc := fun m : Int => #[.int .i64 m]) (L := L) (R := ChRv S w3.heap.size (w3.heap.size + 1) (w3.heap.size + 1 + 1)) rfl (enters_of Try.func43 (by kernel_rfl) rfl) (fun _ => rfl) (fun V hV => hseq.out _ _ _ V (S2.out.bel.belZ hV (by omega)) (g1.below hV) (g2.below hV) (g3.below hV)) (fun k hk => by rcases hk with h | h | h | h; (have := hbel.lt k h; omega); all_goals omega)
      (fun pre U A => ∃ s, Hid (∀ M, wlk (slF t) s0 (pre ++ M) = wlk (slF t) s0 pre ++ wlk (slF t) s M) ∧ Hid (J ((b, s0) :: wlk (slF t) s0 pre) U A) ∧ Hid (NU (fun k => ChRv S bt bb ba k ∨ k = W.heap.size ∨ k = w2.heap.size) U) ∧ Hid (SwSv S w1 W.heap.size w2.heap.size bt bb ba b a s #[.string t.nm, .slice aD t.D.length cD, .int .i64 t.w0, .int .i64 t.w1, .int .i64 t.w2, .int .i64 t.w3, .int .i64 t.w4, .int .i64 t.w5, .int .i64 t.w6, .slice aS t.S.length cS, .slice aX t.X.length cX, .slice aH t.H.length cH] y A)) (fun c pre U A => c = .ret ∧ ∃ q, q <+: PL ∧ Jx q U A)
      (fun x U a' A => a' = { tmps := #[.func (.yield y) #[] #[], .pointer (some ⟨bt, 0, none⟩), .pointer (some ⟨bb, 0, none⟩), .pointer (some ⟨ba, 0, none⟩), .pointer (some ⟨W.heap.size, 0, none⟩), .pointer (some ⟨w2.heap.size, 0, none⟩), .int .i64 x, undef, .agg #[.string t.nm, .slice aD t.D.length cD, .int .i64 t.w0, .int .i64 t.w1, .int .i64 t.w2, .int .i64 t.w3, .int .i64 t.w4, .int .i64 t.w5, .int .i64 t.w6, .slice aS t.S.length cS, .slice aX t.X.length cX, .slice aH t.H.length cH], .int .i64 b, .int .i64 s0, .func (.yield y) #[] #[], .int .i64 b, .int .i64 s0, .bool true, .bool false, .agg #[.string t.nm, .slice aD t.D.length cD, .int .i64 t.w0, .int .i64 t.w1, .int .i64 t.w2, .int .i64 t.w3, .int .i64 t.w4, .int .i64 t.w5, .int .i64 t.w6, .slice aS t.S.length cS, .slice aX t.X.length cX, .slice aH t.H.length cH], .int .i64 b, .int .i64 a, .func (.func 43) #[] #[.pointer (some ⟨w3.heap.size, 0, none⟩), .pointer (some ⟨w3.heap.size + 1, 0, none⟩), .pointer (some ⟨w3.heap.size + 1 + 1, 0, none⟩)], .int .i64 x, undef, undef, undef, undef, undef, undef, undef, undef, undef, undef, undef, undef], defers := [] }) ?hIU ?hI ?hIx (fun _ _ _ _ _ h _ => h) U3 ?hU0 ?h0 ?assign ?body ?done ?stop
    case hIU =>
      rintro pre U A ⟨s, _, h2, _⟩
      exact hJU'.out _ _ _ h2.out
    case hU0 =>
      intro k hk hu
      have hlt := hU3.out k hu
      rcases hk with h | h | h | h
      · exact hN3.out k (.inl (.inl h)) hu
      all_goals omega
    case h0 =>
      obtain ⟨s, z1, z2, z3⟩ : (∃ s, Hid (∀ M, wlk (slF t) s0 ([] ++ M) = wlk (slF t) s0 [] ++ wlk (slF t) s M) ∧ Hid (J ((b, s0) :: wlk (slF t) s0 []) U3 w4) ∧ Hid (SwSv S w1 W.heap.size w2.heap.size bt bb ba b a s #[.string t.nm, .slice aD t.D.length cD, .int .i64 t.w0, .int .i64 t.w1, .int .i64 t.w2, .int .i64 t.w3, .int .i64 t.w4, .int .i64 t.w5, .int .i64 t.w6, .slice aS t.S.length cS, .slice aX t.X.length cX, .slice aH t.H.length cH] y w4)) := ⟨s0, fun M => by simp [wlk], J2, S2⟩
      exact ⟨s, z1, z2, hN3.out, z3⟩
    case hI =>
      rintro pre U A B ⟨s, h1, h2, hn, h3⟩ hb
      exact ⟨s, h1, hJ'.out _ _ _ _ h2.out (hb.it (by omega)), hn, h3.out.belowI hb (by omega) (by omega) (by omega) (by omega) (by omega) (by omega)⟩
    case hIx =>
      rintro c pre U A B ⟨hc, q, hq, h1⟩ hb
      exact ⟨hc, q, hq, hJx'.out _ _ _ _ h1 (hb.it (by omega))⟩
    case assign =>
      intro l pre x U V K hi hz hK
      gi_wp2
      exact hK _ _ (Below.refl _ _) rfl
    case body =>
      rintro pre x U a' A ⟨s, hi1, hi2, hiN, hi3⟩ rfl hnl hp hz ⟨r₀, hr₀⟩
      have hUA : Hid _ := hJU'.out _ _ _ hi2.out
      have hx := hcm.out x (by obtain ⟨r, hr⟩ := hp; rw [← hr]; simp)
      have k12 := c12'.out x hx.1 hx.2 A hi3.out.bel
      obtain ⟨_, q0, _⟩ := id hi3.out.ht
      have hOm : ∀ (A1 A2 : World), Only (Tu W.heap.size (ChRv S bt bb ba) U) A1 A2 → Only (Tu w4.heap.size (ChRv S w3.heap.size (w3.heap.size + 1) (w3.heap.size + 1 + 1)) U) A1 A2 := fun A1 A2 h => h.mono (fun k hk => hk.elim (fun hk => .inl ⟨by have := hk.1; omega, fun x => by have h1 := hk.1; rcases x with x | x | x | x; (exact hk.2 (.inl x)); all_goals omega⟩) .inr)
      have hOm' : Hid _ := hOm
      clear hOm
      by_cases hne : slF t x = s
      · obtain ⟨e1, e2⟩ := wlk_stay hi1.out hne
        have e1' : Hid _ := e1
        have e2' : Hid _ := e2
        clear e1 e2
        have ht : (slF t x == s) = true := by rw [hne]; simp
        generalize slF t x = sx at *
        gi_wp2_with (refine ⟨trivial, fun h => (by cases h), ?_⟩; gi_at_call 22; refine (CallsIn.inRound _ k12).mono ?_; rintro e w5 ⟨rfl, hb5⟩; have hS5 := hi3.out.belW hb5; obtain ⟨_, q1, _⟩ := id hS5.hn)
        exact ⟨U, fun k hk => ⟨.inl hk, Nat.lt_of_lt_of_le (hUA.out k hk) hb5.size⟩, Only.of_below hb5, s, e2', by show J _ _ _; rw [e1'.out]; exact hJ'.out _ _ _ _ hi2.out (Only.of_below hb5), hiN.out, hS5⟩
      · obtain ⟨e1, e2⟩ := wlk_turn hi1.out hne
        have e1' : Hid _ := e1
        have e2' : Hid _ := e2
        clear e1 e2
        have hpre : Hid (((b, s0) :: wlk (slF t) s0 pre) ++ [(x, slF t x)] <+: PL) := by
          obtain ⟨r, hr⟩ := hp
          refine ⟨wlk (slF t) (slF t x) r, ?_⟩
          rw [hpl.out, ← hr, e2'.out, e1'.out]
          simp
        have ht : (slF t x == s) = false := beq_eq_false_iff_ne.2 hne
        have hne' : Hid (slF t x ≠ s) := hne
        clear hne
        generalize hsx : slF t x = sx at *
        have hsx' : Hid _ := hsx
        clear hsx
        gi_wp2_with (refine ⟨trivial, fun h => (by cases h), ?_⟩; gi_at_call 22; refine (CallsIn.inRound _ k12).mono ?_; rintro e w5 ⟨rfl, hb5⟩; have hS5 := hi3.out.belW hb5; have hJ5 := hJ'.out _ _ _ _ hi2.out (Only.of_below hb5); obtain ⟨fn, tmps, assign, body, hy, hRd⟩ := hY'.out _ (x, sx) U w5 hJ5 hpre.out (by have := hb5.size; omega); dsimp only at hy; obtain ⟨_, q1, _⟩ := id hS5.hn; obtain ⟨_, q2, _⟩ := id hS5.hy)
        refine ⟨fun h => (by cases h), round_any (hRd.mono ?_)⟩
        rintro e w6 ⟨U6, hg6, hK6, ⟨rfl, hJ6⟩ | ⟨rfl, hJ6⟩⟩
        · have hS6 := hS5.onlyU hK6 hiN.out
          have hz5 := hb5.size
          have hN6 : Hid (NU (fun k => ChRv S bt bb ba k ∨ k = W.heap.size ∨ k = w2.heap.size) U6) := hiN.out.gr hg6 (fun k hk => by rcases hk with h | h | h; (have := hCB.out k h; omega); omega; omega)
          have hG6 : Hid (∀ k, U6 k → (U k ∨ A.heap.size ≤ k) ∧ k < w6.heap.size) := fun k hk => ⟨(hg6 k hk).1.imp id (fun h => by omega), (hg6 k hk).2⟩
          obtain ⟨_, v1, v2⟩ := id hS6.hn
          clear q0 q1 q2 hy hRd
          gi_wp2
          refine ⟨U6, fun k hk => ⟨(hG6.out k hk).1, by have := (hG6.out k hk).2; simpa [World.setCell] using this⟩, ((Only.of_below hb5).trans (hOm'.out _ _ hK6)).set (b := w2.heap.size) (.inl ⟨by omega, fun h => by rcases h with h | h | h | h; (have := hbel.lt _ h; omega); all_goals omega⟩) _, sx, ?_, ?_, hN6.out, hS6.put sx (by omega) (by omega) (by omega) (by omega) (by omega)⟩
          · have := e2'.out; exact this
          · show J _ _ _
            rw [e1'.out]
            exact hJ'.out _ _ _ _ hJ6 ((Only.refl (It W.heap.size U6) _).set (b := w2.heap.size) ⟨by omega, hN6.out _ (.inr (.inr rfl))⟩ _)
        · gi_wp2
          exact ⟨U6, fun k hk => ⟨(hg6 k hk).1.imp id (fun h => by have := hb5.size; omega), (hg6 k hk).2⟩, (Only.of_below hb5).trans (hOm'.out _ _ hK6), rfl, _, hpre.out, hJ6⟩
    case done =>
      rintro U V ⟨s, h1, h2, hn, h3⟩ hnD hD hz
      gi_wp2
      refine ⟨by simp, .inl ⟨_, _, rfl, run_takeDeferred hD, ?_⟩⟩
      refine ⟨_, results_none rfl _ _ _, ⟨_, rfl⟩, .inl ⟨U, hJ'.out _ _ _ _ (by rw [hpl.out]; exact h2.out) (put_it _ _ (by omega) (hnD _ ⟨Nat.le_refl _, by omega⟩))⟩⟩
    case stop =>
      rintro c pre U V hp ⟨rfl, q, hq, hJp⟩ hnD hD hz
      gi_wp2
      refine ⟨by simp, .inl ⟨_, _, rfl, run_takeDeferred hD, ?_⟩⟩
      refine ⟨_, results_none rfl _ _ _, ⟨_, rfl⟩, .inr ⟨q, U, hq, hJx'.out _ _ _ _ hJp (put_it _ _ (by omega) (hnD _ ⟨Nat.le_refl _, by omega⟩))⟩⟩
  · gi_wp2
    refine ⟨_, results_none rfl _ _ _, ⟨_, rfl⟩, .inr ⟨_, U3, ⟨_, by rw [hpl.out]; rfl⟩, hJ3⟩⟩
/-- Of no span or of no sound table nothing is given. -/
theorem sw0_v (n : Nat) (R : Nat → Prop) (W : World) : SeqU n 19 #[] (fun p : Int × Int => #[.int .i64 p.1, .int .i64 p.2]) [] R W := by
  intro y J Jx hJU hJ hJx hY U0 hN0 h0
  refine callsIn_of_wp Try.func19 rfl trivial ?_ rfl
  simp only [Try.ntmps19, List.size_toArray, List.length_cons, List.length_nil, Nat.reduceAdd, Nat.reduceSub, Array.replicate_succ, Array.replicate_zero, List.push_toArray, List.append_toArray, List.nil_append, List.cons_append]
  gi_wp2
  go_end0
  exact ⟨⟨_, rfl⟩, .inl ⟨U0, h0⟩⟩
end Go.Proofs.Ytddphepgcihdbaa
