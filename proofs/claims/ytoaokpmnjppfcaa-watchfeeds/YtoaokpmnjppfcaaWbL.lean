import Derived.Test.YtoaokpmnjppfcaaWbK
import Derived.Test.YtoaokpmnjppfcaaWaT
namespace Go.Proofs.Ytoaokpmnjppfcaa
open Go.RowKit
set_option linter.unusedVariables false
set_option linter.unusedSimpArgs false

/-- A monitor and one of the reference's that remember the same; F: their blocks. -/
structure PX (w : World) (F : Nat → Prop) (lo lb gl b1 B : Nat) (vg vc vl : Value) (b2 rb : Nat) (vg' vc' vn vt : Value) (G : List Gp) (C : List Cf) (st : Sta) (tk : Int) (la : ByteArray) (ru gn : Nat → Int) (N : Nat) : Prop where
  mo : MoS w lo lb gl b1 B vg vc vl (grL G) C st
  rm : Rm w b2 rb vg' vc' vn vt G C tk la ru gn st.tr st.lg
  re : st.tr.k = 0 → tk = st.tk ∧ Rel G.length st.f st.tk la ru gn
  ok : Sok st N
  ln : st.lg.length ≤ N
  f1 : ∀ q, (lo ≤ q ∧ q < lb ∨ vl.ownBlock = some q) → F q ∧ ¬ Ft b2 rb vg' vc' vn vt q
  f2 : ∀ q, Ft b2 rb vg' vc' vn vt q → F q
  f3 : ∀ q, F q → q < w.heap.size
def Pr (w : World) (F : Nat → Prop) (b1 b2 : Nat) (G : List Gp) (C : List Cf) (st : Sta) (N : Nat) : Prop := ∃ lo lb gl B vg vc vl rb vg' vc' vn vt tk la ru gn, PX w F lo lb gl b1 B vg vc vl b2 rb vg' vc' vn vt G C st tk la ru gn N
theorem Rm.nt {w : World} {b rb : Nat} {vg vc vn vt : Value} {G : List Gp} {C : List Cf} {tk : Int} {la : ByteArray} {ru gn : Nat → Int} {tr : Al} {L : List Al} (h : Rm w b rb vg vc vn vt G C tk la ru gn tr L) : ∀ q, Dyn b rb vn vt q → q < w.heap.size := by
  intro q hq
  rcases hq with e | e | e | e
  · rw [e]; exact h.ob.1
  · rw [e]; exact h.run.1
  · exact (own_lt h.grn q e).2
  · exact (own_lt h.tol q e).2
theorem PX.move {w w' : World} {F S : Nat → Prop} {lo lb gl b1 B : Nat} {vg vc vl : Value} {b2 rb : Nat} {vg' vc' vn vt : Value} {G : List Gp} {C : List Cf} {st : Sta} {tk : Int} {la : ByteArray} {ru gn : Nat → Int} {N : Nat} (h : PX w F lo lb gl b1 B vg vc vl b2 rb vg' vc' vn vt G C st tk la ru gn N) (ho : Only S w w') (hS : ∀ q, F q → ¬ S q) : PX w' F lo lb gl b1 B vg vc vl b2 rb vg' vc' vn vt G C st tk la ru gn N :=
  ⟨Mo.move h.mo ho (fun q a b => hS q (h.f1 q (.inl ⟨a, b⟩)).1) (fun q e => hS q (h.f1 q (.inr e)).1), h.rm.move ho (fun q e => hS q (h.f2 q (.inl e))) (fun q e => hS q (h.f2 q (.inr e))), h.re, h.ok, h.ln, h.f1, h.f2, fun q e => Nat.lt_of_lt_of_le (h.f3 q e) ho.size⟩
theorem Pr.move {w w' : World} {F S : Nat → Prop} {b1 b2 : Nat} {G : List Gp} {C : List Cf} {st : Sta} {N : Nat} (h : Pr w F b1 b2 G C st N) (ho : Only S w w') (hS : ∀ q, F q → ¬ S q) : Pr w' F b1 b2 G C st N := by
  obtain ⟨lo, lb, gl, B, vg, vc, vl, rb, vg', vc', vn, vt, tk, la, ru, gn, h⟩ := h
  exact ⟨lo, lb, gl, B, vg, vc, vl, rb, vg', vc', vn, vt, tk, la, ru, gn, h.move ho hS⟩
theorem Pr.below {w w' : World} {F : Nat → Prop} {b1 b2 : Nat} {G : List Gp} {C : List Cf} {st : Sta} {N : Nat} (h : Pr w F b1 b2 G C st N) (hb : Below w.heap.size w w') : Pr w' F b1 b2 G C st N := h.move (only_of_below hb) (fun _ _ h => h)
theorem Pr.up {w : World} {F : Nat → Prop} {b1 b2 : Nat} {G : List Gp} {C : List Cf} {st : Sta} {N M : Nat} (h : Pr w F b1 b2 G C st N) (hm : N ≤ M) : Pr w F b1 b2 G C st M := by
  obtain ⟨lo, lb, gl, B, vg, vc, vl, rb, vg', vc', vn, vt, tk, la, ru, gn, h⟩ := h
  exact ⟨lo, lb, gl, B, vg, vc, vl, rb, vg', vc', vn, vt, tk, la, ru, gn, h.mo, h.rm, h.re, h.ok.up hm, Nat.le_trans h.ln hm, h.f1, h.f2, h.f3⟩
theorem Pr.lt {w : World} {F : Nat → Prop} {b1 b2 : Nat} {G : List Gp} {C : List Cf} {st : Sta} {N : Nat} (h : Pr w F b1 b2 G C st N) : ∀ q, F q → q < w.heap.size := by
  obtain ⟨lo, lb, gl, B, vg, vc, vl, rb, vg', vc', vn, vt, tk, la, ru, gn, h⟩ := h
  exact h.f3
theorem Pr.ln {w : World} {F : Nat → Prop} {b1 b2 : Nat} {G : List Gp} {C : List Cf} {st : Sta} {N : Nat} (h : Pr w F b1 b2 G C st N) : st.lg.length ≤ N := by
  obtain ⟨lo, lb, gl, B, vg, vc, vl, rb, vg', vc', vn, vt, tk, la, ru, gn, h⟩ := h
  exact h.ln
/-- The blocks, and all new ones. -/
def Fn (F : Nat → Prop) (w w' : World) (q : Nat) : Prop := F q ∨ (w.heap.size ≤ q ∧ q < w'.heap.size)
theorem PX.close {w w1 W w2 : World} {F : Nat → Prop} {lo lb gl b1 B : Nat} {vg vc vl : Value} {b2 rb : Nat} {vg' vc' vn vt : Value} {G : List Gp} {C : List Cf} {st : Sta} {tk : Int} {la : ByteArray} {ru gn : Nat → Int} {N : Nat} {vl1 : Value} {st' : Sta} {rb2 : Nat} {vn2 vt2 : Value} {tk2 : Int} {la2 : ByteArray} {ru2 gn2 : Nat → Int} {N' : Nat} (h : PX w F lo lb gl b1 B vg vc vl b2 rb vg' vc' vn vt G C st tk la ru gn N) (mo1 : MoS w1 lo lb gl b1 B vg vc vl1 (grL G) C st') (hv1 : vl1.ownBlock = vl.ownBlock ∨ ∀ q, vl1.ownBlock = some q → w.heap.size ≤ q) (ho1 : Only (fun q => q = b1 ∨ q = B ∨ vl.ownBlock = some q) w w1) (hW : Below w1.heap.size w1 W)
    (rm2 : Rm w2 b2 rb2 vg' vc' vn2 vt2 G C tk2 la2 ru2 gn2 st'.tr st'.lg) (hd : ∀ q, Dyn b2 rb2 vn2 vt2 q → Dyn b2 rb vn vt q ∨ W.heap.size ≤ q) (ho2 : Only (Dyn b2 rb vn vt) W w2) (re2 : st'.tr.k = 0 → tk2 = st'.tk ∧ Rel G.length st'.f st'.tk la2 ru2 gn2) (ok2 : Sok st' N') (ln2 : st'.lg.length ≤ N') :
    Pr w2 (Fn F w w2) b1 b2 G C st' N' ∧ Only F w w2 := by
  have z1 := ho1.size
  have z2 := hW.size
  have z3 := ho2.size
  have lv : ∀ q, vl1.ownBlock = some q → q < w1.heap.size := fun q e => (own_lt (Mo.lg mo1) q e).2
  have D1 : ∀ q, (lo ≤ q ∧ q < lb ∨ vl1.ownBlock = some q) → ((F q ∧ ¬ Ft b2 rb vg' vc' vn vt q) ∨ (w.heap.size ≤ q ∧ q < w1.heap.size)) := by
    intro q hq
    rcases hq with e | e
    · exact .inl (h.f1 q (.inl e))
    · rcases hv1 with e1 | e1
      · exact .inl (h.f1 q (.inr (by rw [← e1]; exact e)))
      · exact .inr ⟨e1 q e, lv q e⟩
  have NF : ∀ q, w.heap.size ≤ q → ¬ Ft b2 rb vg' vc' vn vt q := fun q hq e => by have := h.f3 q (h.f2 q e); omega
  have nd : ∀ q, (lo ≤ q ∧ q < lb ∨ vl1.ownBlock = some q) → ¬ Dyn b2 rb vn vt q := fun q hq e => (D1 q hq).elim (fun c => c.2 (.inl e)) (fun c => NF q c.1 (.inl e))
  have F2 : ∀ q, Ft b2 rb2 vg' vc' vn2 vt2 q → Ft b2 rb vg' vc' vn vt q ∨ W.heap.size ≤ q := by
    intro q hq
    rcases hq with e | e
    · exact (hd q e).elim (fun c => .inl (.inl c)) .inr
    · exact .inl (.inr e)
  refine ⟨⟨lo, lb, gl, B, vg, vc, vl1, rb2, vg', vc', vn2, vt2, tk2, la2, ru2, gn2, Mo.move (Mo.below mo1 hW) ho2 (fun q a b => nd q (.inl ⟨a, b⟩)) (fun q e => nd q (.inr e)), rm2, re2, ok2, ln2, fun q hq => ?_, fun q hq => ?_, fun q hq => ?_⟩, ?_⟩
  · refine ⟨(D1 q hq).elim (fun c => .inl c.1) (fun c => .inr ⟨c.1, by omega⟩), fun e => ?_⟩
    rcases F2 q e with e | e
    · exact (D1 q hq).elim (fun c => c.2 e) (fun c => NF q c.1 e)
    · rcases D1 q hq with c | c
      · have := h.f3 q c.1; omega
      · omega
  · have hlt : q < w2.heap.size := by
      rcases hq with e | e
      · exact rm2.nt q e
      · have := h.f3 q (h.f2 q (.inr e)); omega
    rcases F2 q hq with e | e
    · exact .inl (h.f2 q e)
    · exact .inr ⟨by omega, hlt⟩
  · rcases hq with e | e
    · have := h.f3 q e; omega
    · exact e.2
  · have a1 : Only F w W := (ho1.mono (fun q e => (h.f1 q (by
      rcases e with e | e | e
      · rw [e]; exact .inl ⟨Mo.b1 h.mo, Mo.b2 h.mo⟩
      · rw [e]; exact .inl ⟨Mo.B1 h.mo, Mo.B2 h.mo⟩
      · exact .inr e)).1)).below hW
    exact a1.trans (ho2.mono (fun q e => h.f2 q (.inl e)))
theorem PX.rmW {w w1 W : World} {F : Nat → Prop} {lo lb gl b1 B : Nat} {vg vc vl : Value} {b2 rb : Nat} {vg' vc' vn vt : Value} {G : List Gp} {C : List Cf} {st : Sta} {tk : Int} {la : ByteArray} {ru gn : Nat → Int} {N : Nat} (h : PX w F lo lb gl b1 B vg vc vl b2 rb vg' vc' vn vt G C st tk la ru gn N) (ho1 : Only (fun q => q = b1 ∨ q = B ∨ vl.ownBlock = some q) w w1) (hW : Below w1.heap.size w1 W) : Rm W b2 rb vg' vc' vn vt G C tk la ru gn st.tr st.lg := by
  have nf : ∀ q, (q = b1 ∨ q = B ∨ vl.ownBlock = some q) → ¬ Ft b2 rb vg' vc' vn vt q := fun q e => (h.f1 q (by
    rcases e with e | e | e
    · rw [e]; exact .inl ⟨Mo.b1 h.mo, Mo.b2 h.mo⟩
    · rw [e]; exact .inl ⟨Mo.B1 h.mo, Mo.B2 h.mo⟩
    · exact .inr e)).2
  exact (h.rm.move ho1 (fun q e c => nf q c (.inl e)) (fun q e c => nf q c (.inr e))).below hW
theorem pair_feed {w : World} {F : Nat → Prop} {b1 b2 : Nat} {G : List Gp} {C : List Cf} {st : Sta} {N : Nat} (h : Pr w F b1 b2 G C st N) (s : ByteArray) (hg : gridB G C = true) (lC : C.length ≤ 4398046511000) (hN : N + 1 ≤ 4398046511000) :
    ∃ x : Al, Calls Try.prog 15 #[.pointer (some ⟨b1, 0, none⟩), .string s] w fun e w1 => e = .returned (.agg #[.int .i64 x.k, .int .i64 x.t, .int .i64 x.a, .int .i64 x.b]) ∧ Only F w w1 ∧ ∀ W, Below w1.heap.size w1 W → Calls Try.prog 21 #[.pointer (some ⟨b2, 0, none⟩), .string s] W fun e' w2 => e' = .returned (.agg #[.int .i64 x.k, .int .i64 x.t, .int .i64 x.a, .int .i64 x.b]) ∧ (∃ st', Pr w2 (Fn F w w2) b1 b2 G C st' (N + 1)) ∧ Only F w w2 := by
  obtain ⟨lo, lb, gl, B, vg, vc, vl, rb, vg', vc', vn, vt, tk, la, ru, gn, h⟩ := h
  have n63 : N ≤ 4611686018427387904 := by omega
  refine ⟨(fdA (grL G) C st s), (feed_any h.mo s hg lC h.ok n63 (by have := h.ln; omega)).mono ?_⟩
  rintro e w1 ⟨vl1, rfl, mo1, hv1, ho1⟩
  have a1 : Only F w w1 := ho1.mono (fun q e => (h.f1 q (by
      rcases e with e | e | e
      · rw [e]; exact .inl ⟨Mo.b1 h.mo, Mo.b2 h.mo⟩
      · rw [e]; exact .inl ⟨Mo.B1 h.mo, Mo.B2 h.mo⟩
      · exact .inr e)).1)
  refine ⟨rfl, a1, fun W hW => ?_⟩
  have rmW := h.rmW ho1 hW
  have ok1 := h.ok.next (R := grL G) (C := C) s
  by_cases h0 : st.tr.k = 0
  · obtain ⟨rfl, hr⟩ := h.re h0
    have hff := fr_ff (C := C) (s := s) hr (fun i hi => by have := grid_cf hg i hi; omega)
    have ea : fdA (grL G) C st s = ffF G C st.f st.tk s := by unfold fdA; rw [if_pos h0, hff]
    have es : fdS (grL G) C st s = ⟨lmF (grL G) st.f st.tk s, st.tk + 1, trN st.tr (ffF G C st.f st.tk s), lgN st.lg (ffF G C st.f st.tk s)⟩ := by unfold fdS; rw [if_pos h0, hff]
    have hb1 : ∀ k, (0 ≤ (st.f k).lo ∧ (st.f k).lo ≤ 4611686018427387904) ∧ (st.f k).fr ≤ 4611686018427387904 := fun k => by have := h.ok.lm k; omega
    have htk : st.tk ≤ 4611686018427387904 := by have := h.ok.tk; omega
    rw [ea]
    by_cases hx : (ffF G C st.f st.tk s).k = 0
    · have e0 : ffF G C st.f st.tk s = al0 ∨ True := .inr trivial
      have et : trN st.tr (ffF G C st.f st.tk s) = st.tr := if_pos hx
      have el : lgN st.lg (ffF G C st.f st.tk s) = st.lg := if_pos hx
      have hwr : wrF G.length s = -2 := by
        by_cases e : wrF G.length s = -2
        · exact e
        · unfold ffF at hx; rw [if_neg e] at hx; cases hx
      have elm : lmF (grL G) st.f st.tk s = lmN st.f st.tk s G.length := by unfold lmF; rw [grL_len, ms_wr, if_pos hwr, if_pos (show al0.k = 0 from rfl)]
      rw [es, et, el] at mo1 ok1
      have hz : ffF G C st.f st.tk s = al0 := by
        have := (pz_fr (grL G) C st.f st.tk s).1
        rw [hff] at this
        exact this hx
      rw [hz]
      refine (feedR_good rmW s hg hr lC hb1 htk h0 hx).mono ?_
      rintro e' w2 ⟨rfl, rm2, ho2⟩
      obtain ⟨c1, c2⟩ := h.close mo1 hv1 ho1 hW rm2 (fun q e => .inl e) ho2 (fun _ => ⟨rfl, by dsimp only; rw [elm]; exact rel_next hr hwr⟩) ok1 (by have := h.ln; dsimp only; omega)
      exact ⟨rfl, ⟨_, c1⟩, c2⟩
    · have et : trN st.tr (ffF G C st.f st.tk s) = ffF G C st.f st.tk s := if_neg hx
      have el : lgN st.lg (ffF G C st.f st.tk s) = st.lg ++ [ffF G C st.f st.tk s] := if_neg hx
      rw [es, et, el] at mo1 ok1
      refine (feedR_bad rmW s hg hr lC hb1 htk (by have := h.ln; omega) h0 _ rfl hx).mono ?_
      rintro e' w2 ⟨rfl, vt2, rm2, hd, ho2⟩
      obtain ⟨c1, c2⟩ := h.close mo1 hv1 ho1 hW rm2 hd ho2 (fun c => absurd c hx) ok1 (by have := h.ln; simp; omega)
      exact ⟨rfl, ⟨_, c1⟩, c2⟩
  · have ea : fdA (grL G) C st s = al0 := by unfold fdA; rw [if_neg h0]
    have es : fdS (grL G) C st s = st := by unfold fdS; rw [if_neg h0]
    rw [es] at mo1 ok1
    rw [ea]
    refine (feedR_no rmW s h0).mono ?_
    rintro e' w2 ⟨rfl, hb⟩
    obtain ⟨c1, c2⟩ := h.close mo1 hv1 ho1 hW (rmW.below hb) (fun q e => .inl e) (Only.of_below hb) (fun c => absurd c h0) ok1 (by have := h.ln; omega)
    exact ⟨rfl, ⟨_, c1⟩, c2⟩
theorem pair_reset {w : World} {F : Nat → Prop} {b1 b2 : Nat} {G : List Gp} {C : List Cf} {st : Sta} {N : Nat} (h : Pr w F b1 b2 G C st N) (hg : gridB G C = true) :
    ∃ x : Bool, Calls Try.prog 17 #[.pointer (some ⟨b1, 0, none⟩)] w fun e w1 => e = .returned (.bool x) ∧ Only F w w1 ∧ ∀ W, Below w1.heap.size w1 W → Calls Try.prog 23 #[.pointer (some ⟨b2, 0, none⟩)] W fun e' w2 => e' = .returned (.bool x) ∧ (∃ st', Pr w2 (Fn F w w2) b1 b2 G C st' (N + 1)) ∧ Only F w w2 := by
  obtain ⟨lo, lb, gl, B, vg, vc, vl, rb, vg', vc', vn, vt, tk, la, ru, gn, h⟩ := h
  have fp : ∀ q, (q = b1 ∨ q = B ∨ vl.ownBlock = some q) → F q := fun q e => (h.f1 q (by
      rcases e with e | e | e
      · rw [e]; exact .inl ⟨Mo.b1 h.mo, Mo.b2 h.mo⟩
      · rw [e]; exact .inl ⟨Mo.B1 h.mo, Mo.B2 h.mo⟩
      · exact .inr e)).1
  by_cases h0 : st.tr.k = 0
  · refine ⟨false, (reset_no h.mo h0).mono ?_⟩
    rintro e w1 ⟨rfl, hb1⟩
    refine ⟨rfl, Only.of_below hb1, fun W hW => ?_⟩
    have rmW := h.rmW (Only.of_below hb1) hW
    refine (resetR_no rmW h0).mono ?_
    rintro e' w2 ⟨rfl, hb⟩
    obtain ⟨c1, c2⟩ := h.close (Mo.below h.mo hb1) (.inl rfl) (Only.of_below hb1) hW (rmW.below hb) (fun q e => .inl e) (Only.of_below hb) h.re (h.ok.up (Nat.le_succ _)) (by have := h.ln; omega)
    exact ⟨rfl, ⟨_, c1⟩, c2⟩
  · refine ⟨true, (reset_yes h.mo h0).mono ?_⟩
    rintro e w1 ⟨rfl, mo1, ho1⟩
    refine ⟨rfl, ho1.mono fp, fun W hW => ?_⟩
    have rmW := h.rmW ho1 hW
    refine (resetR_yes rmW (grid_len hg) h0).mono ?_
    rintro e' w2 ⟨rfl, rb2, vn2, rm2, hd, ho2⟩
    obtain ⟨c1, c2⟩ := h.close mo1 (.inl rfl) ho1 hW (N' := N + 1) rm2 hd (ho2.mono (fun q e => .inl e)) (fun _ => ⟨rfl, rel0 _⟩) ((sok0 _).up (Nat.zero_le _)) (by have := h.ln; show st.lg.length ≤ N + 1; omega)
    exact ⟨rfl, ⟨_, c1⟩, c2⟩
theorem pair_trip {w : World} {F : Nat → Prop} {b1 b2 : Nat} {G : List Gp} {C : List Cf} {st : Sta} {N : Nat} (h : Pr w F b1 b2 G C st N) :
    (Calls Try.prog 16 #[.pointer (some ⟨b1, 0, none⟩)] w fun e w1 => e = .returned (.agg #[.int .i64 st.tr.k, .int .i64 st.tr.t, .int .i64 st.tr.a, .int .i64 st.tr.b]) ∧ Below w.heap.size w w1) ∧ Calls Try.prog 22 #[.pointer (some ⟨b2, 0, none⟩)] w fun e w1 => e = .returned (.agg #[.int .i64 st.tr.k, .int .i64 st.tr.t, .int .i64 st.tr.a, .int .i64 st.tr.b]) ∧ Below w.heap.size w w1 := by
  obtain ⟨lo, lb, gl, B, vg, vc, vl, rb, vg', vc', vn, vt, tk, la, ru, gn, h⟩ := h
  exact ⟨tripped_any h.mo, tripR_any h.rm⟩
def LgP (L : List Al) (B : Nat) (w : World) (v : Value) : Prop := ∃ a c, v = .slice a L.length c ∧ w.ownsRow B 43 4 v L.length (cellsF Al.cs L)
theorem pair_log {w : World} {F : Nat → Prop} {b1 b2 : Nat} {G : List Gp} {C : List Cf} {st : Sta} {N : Nat} (h : Pr w F b1 b2 G C st N) (hN : N ≤ 4398046511000) :
    (Calls Try.prog 11 #[.pointer (some ⟨b1, 0, none⟩)] w fun e w1 => (∃ a c, e = .returned (.slice a st.lg.length c) ∧ w1.ownsRow w.heap.size 43 4 (.slice a st.lg.length c) st.lg.length (cellsF Al.cs st.lg)) ∧ Below w.heap.size w w1) ∧ Calls Try.prog 12 #[.pointer (some ⟨b2, 0, none⟩)] w fun e w1 => (∃ a c, e = .returned (.slice a st.lg.length c) ∧ w1.ownsRow w.heap.size 43 4 (.slice a st.lg.length c) st.lg.length (cellsF Al.cs st.lg)) ∧ Below w.heap.size w w1 := by
  obtain ⟨lo, lb, gl, B, vg, vc, vl, rb, vg', vc', vn, vt, tk, la, ru, gn, h⟩ := h
  exact ⟨log_any h.mo (by have := h.ln; omega), logR_any h.rm (by have := h.ln; omega)⟩
end Go.Proofs.Ytoaokpmnjppfcaa
