import Derived.Test.YtddphepgcihdbaaTnO
namespace Go.Proofs.Ytddphepgcihdbaa
open Go.RowKit Go.Shelf
set_option linter.unusedVariables false
set_option linter.unusedSimpArgs false

/-- What Switches answers: an iterator that gives prL, whatever becomes of the blocks that were there before. -/
def SwP (t : Tt) (b a : Int) (w : World) (e : Ending) (w' : World) : Prop := ∃ (F : Nat) (lb : Array Value), e = .returned (.func (.func F) #[] lb) ∧ (∀ args w, (callFunc F args).run Try.prog w = .ok (.enter F args) w) ∧ Below w.heap.size w w' ∧
  ∀ W, Only (fun k => k < w.heap.size) w' W → ∀ n V, Below W.heap.size W V → SeqAt n F lb (fun p : Int × Int => #[.int .i64 p.1, .int .i64 p.2]) (prL t b a) (fun k => k < W.heap.size) V
theorem chR_eq {B bt bb ba : Nat} (h1 : bt < B) (h2 : bb < B) (h3 : ba < B) : ChR B bt bb ba = fun k => k < B := by
  funext k
  exact propext ⟨fun h => by rcases h with h | h | h | h <;> omega, fun h => .inl h⟩
theorem cp_prL {t : Tt} {D' : List Dk} (h : D'.map cr = t.D.map cr) (b a : Int) : prL { t with D := D' } b a = prL t b a := by
  unfold prL
  rw [cp_err h, cp_slF h]
set_option maxRecDepth 100000 in
set_option maxHeartbeats 8000000 in
theorem switches_any (b a : Int) (hb0 : -9223372036854775808 ≤ b ∧ b ≤ 9223372036854775807) (ha0 : -9223372036854775808 ≤ a ∧ a ≤ 9223372036854775807) (t : Tt) (aD aS aX aH : Option Addr) (cD cS cX cH : Nat) (w : World) (hR : TR w t (.slice aD t.D.length cD) (.slice aS t.S.length cS) (.slice aX t.X.length cX) (.slice aH t.H.length cH)) : Calls Try.prog 6 #[.agg #[.string t.nm, .slice aD t.D.length cD, .int .i64 t.w0, .int .i64 t.w1, .int .i64 t.w2, .int .i64 t.w3, .int .i64 t.w4, .int .i64 t.w5, .int .i64 t.w6, .slice aS t.S.length cS, .slice aX t.X.length cX, .slice aH t.H.length cH], .int .i64 b, .int .i64 a] w fun e w' => SwP t b a w e w' := by
  have c17 := fun W => span_any b a hb0 ha0 W
  have c18 := fun W (hb : Below w.heap.size w W) => sound_any t aD aS aX aH cD cS cX cH W (hR.below hb)
  by_cases hsp : spB b a = true
  · by_cases he : t.err = 0
    · have c20 := fun W (hb : Below w.heap.size w W) => copied_any t aD aS aX aH cD cS cX cH W (hR.below hb) he
      rw [hsp] at c17
      rw [he] at c18
      have hpL : Hid (∀ D', D'.map cr = t.D.map cr → prL { t with D := D' } b a = prL t b a ∧ ({ t with D := D' } : Tt).err = 0) := fun D' h => ⟨cp_prL h b a, by rw [cp_err h, he]⟩
      have hR' : Hid _ := hR
      have hsp' : Hid (0 ≤ b ∧ a ≤ 210379679 ∧ b < a ∧ a - b ≤ 44640) := by simp only [spB, Bool.and_eq_true, decide_eq_true_eq] at hsp; exact hsp
      clear hR he hsp
      go_enter Try.func6, Try.ntmps6
      go_wp2_with (first
        | (go_at_call 17; (with_reducible refine Calls.mono (c17 _) ?_); rintro e w1 ⟨rfl, rfl⟩)
        | (go_at_call 18; (with_reducible refine Calls.mono (c18 _ (belT (belT bel1 bel1) bel1)) ?_); rintro e w2 ⟨rfl, hb2⟩; have B0 := (((Has.new w #[.string t.nm, .slice aD t.D.length cD, .int .i64 t.w0, .int .i64 t.w1, .int .i64 t.w2, .int .i64 t.w3, .int .i64 t.w4, .int .i64 t.w5, .int .i64 t.w6, .slice aS t.S.length cS, .slice aX t.X.length cX, .slice aH t.H.length cH] 29 (b := w.heap.size) rfl).alloc (.cells #[.int .i64 b] 3)).alloc (.cells #[.int .i64 a] 3)).below hb2; obtain ⟨_, q0, _⟩ := id B0)
        | (go_at_call 20; (with_reducible refine Calls.mono (c20 _ (belT (belT (belT bel1 bel1) bel1) hb2)) ?_); rintro e w3 ⟨D', dD, dS, dX, dH, eD, eS, eX, eH, rfl, hC, hO, hb3⟩; have B1 := B0.below hb3; obtain ⟨_, q1, r1⟩ := id B1))
      have z2 : w.heap.size + 3 ≤ w2.heap.size := by have := hb2.size; simpa using this
      have z3 := hb3.size
      have B2 := B1.set12 (.string t.nm) (.slice dD D'.length eD) (.int .i64 t.w0) (.int .i64 t.w1) (.int .i64 t.w2) (.int .i64 t.w3) (.int .i64 t.w4) (.int .i64 t.w5) (.int .i64 t.w6) (.slice dS t.S.length eS) (.slice dX t.X.length eX) (.slice dH t.H.length eH)
      have L2 : Below w.heap.size w ((((((((((((w3.setCell ⟨w.heap.size, 0, none⟩ (.string t.nm)).setCell ⟨w.heap.size, 1, none⟩ (.slice dD D'.length eD)).setCell ⟨w.heap.size, 2, none⟩ (.int .i64 t.w0)).setCell ⟨w.heap.size, 3, none⟩ (.int .i64 t.w1)).setCell ⟨w.heap.size, 4, none⟩ (.int .i64 t.w2)).setCell ⟨w.heap.size, 5, none⟩ (.int .i64 t.w3)).setCell ⟨w.heap.size, 6, none⟩ (.int .i64 t.w4)).setCell ⟨w.heap.size, 7, none⟩ (.int .i64 t.w5)).setCell ⟨w.heap.size, 8, none⟩ (.int .i64 t.w6)).setCell ⟨w.heap.size, 9, none⟩ (.slice dS t.S.length eS)).setCell ⟨w.heap.size, 10, none⟩ (.slice dX t.X.length eX)).setCell ⟨w.heap.size, 11, none⟩ (.slice dH t.H.length eH)) := bel12 (belT (belT (belT (belT bel1 bel1) bel1) hb2) hb3) (Nat.le_refl _) (.string t.nm) (.slice dD D'.length eD) (.int .i64 t.w0) (.int .i64 t.w1) (.int .i64 t.w2) (.int .i64 t.w3) (.int .i64 t.w4) (.int .i64 t.w5) (.int .i64 t.w6) (.slice dS t.S.length eS) (.slice dX t.X.length eX) (.slice dH t.H.length eH)
      have O2 : Only (fun q => q = w.heap.size) w3 ((((((((((((w3.setCell ⟨w.heap.size, 0, none⟩ (.string t.nm)).setCell ⟨w.heap.size, 1, none⟩ (.slice dD D'.length eD)).setCell ⟨w.heap.size, 2, none⟩ (.int .i64 t.w0)).setCell ⟨w.heap.size, 3, none⟩ (.int .i64 t.w1)).setCell ⟨w.heap.size, 4, none⟩ (.int .i64 t.w2)).setCell ⟨w.heap.size, 5, none⟩ (.int .i64 t.w3)).setCell ⟨w.heap.size, 6, none⟩ (.int .i64 t.w4)).setCell ⟨w.heap.size, 7, none⟩ (.int .i64 t.w5)).setCell ⟨w.heap.size, 8, none⟩ (.int .i64 t.w6)).setCell ⟨w.heap.size, 9, none⟩ (.slice dS t.S.length eS)).setCell ⟨w.heap.size, 10, none⟩ (.slice dX t.X.length eX)).setCell ⟨w.heap.size, 11, none⟩ (.slice dH t.H.length eH)) := only12 (Only.refl (fun q => q = w.heap.size) w3) rfl (.string t.nm) (.slice dD D'.length eD) (.int .i64 t.w0) (.int .i64 t.w1) (.int .i64 t.w2) (.int .i64 t.w3) (.int .i64 t.w4) (.int .i64 t.w5) (.int .i64 t.w6) (.slice dS t.S.length eS) (.slice dX t.X.length eX) (.slice dH t.H.length eH)
      have B3 : Has w3 (w.heap.size + 1) #[.int .i64 b] := (Has.below (Has.alloc (Has.new (w.alloc (.cells #[.string t.nm, .slice aD t.D.length cD, .int .i64 t.w0, .int .i64 t.w1, .int .i64 t.w2, .int .i64 t.w3, .int .i64 t.w4, .int .i64 t.w5, .int .i64 t.w6, .slice aS t.S.length cS, .slice aX t.X.length cX, .slice aH t.H.length cH] 29)) #[.int .i64 b] 3 (b := w.heap.size + 1) (by simp)) (.cells #[.int .i64 a] 3)) hb2).below hb3
      have B4 : Has w3 (w.heap.size + 1 + 1) #[.int .i64 a] := (Has.below (Has.new ((w.alloc (.cells #[.string t.nm, .slice aD t.D.length cD, .int .i64 t.w0, .int .i64 t.w1, .int .i64 t.w2, .int .i64 t.w3, .int .i64 t.w4, .int .i64 t.w5, .int .i64 t.w6, .slice aS t.S.length cS, .slice aX t.X.length cX, .slice aH t.H.length cH] 29)).alloc (.cells #[.int .i64 b] 3)) #[.int .i64 a] 3 (b := w.heap.size + 1 + 1) (by simp)) hb2).below hb3
      have B3' := B3.only O2 (by omega)
      have B4' := B4.only O2 (by omega)
      have hO' := hO.only O2 (fun k hk h => by omega)
      have z4 := O2.size
      clear q0 q1 r1 B1 B0 B3 B4 hO c17 c18 c20 O2
      generalize ((((((((((((w3.setCell ⟨w.heap.size, 0, none⟩ (.string t.nm)).setCell ⟨w.heap.size, 1, none⟩ (.slice dD D'.length eD)).setCell ⟨w.heap.size, 2, none⟩ (.int .i64 t.w0)).setCell ⟨w.heap.size, 3, none⟩ (.int .i64 t.w1)).setCell ⟨w.heap.size, 4, none⟩ (.int .i64 t.w2)).setCell ⟨w.heap.size, 5, none⟩ (.int .i64 t.w3)).setCell ⟨w.heap.size, 6, none⟩ (.int .i64 t.w4)).setCell ⟨w.heap.size, 7, none⟩ (.int .i64 t.w5)).setCell ⟨w.heap.size, 8, none⟩ (.int .i64 t.w6)).setCell ⟨w.heap.size, 9, none⟩ (.slice dS t.S.length eS)).setCell ⟨w.heap.size, 10, none⟩ (.slice dX t.X.length eX)).setCell ⟨w.heap.size, 11, none⟩ (.slice dH t.H.length eH)) = Y at *
      go_ret
      refine ⟨21, _, rfl, enters_of Try.func21 (by kernel_rfl) rfl, L2, ?_⟩
      intro W hW n V hV
      obtain ⟨x1, x2, x3, x4⟩ := hsp'.out
      obtain ⟨y1, y2⟩ := hpL.out D' hC
      have hT : TR W { t with D := D' } (.slice dD D'.length eD) (.slice dS t.S.length eS) (.slice dX t.X.length eX) (.slice dH t.H.length eH) := (hO'.only hW (fun k hk h => by omega)).tr hC hR'.out
      have G0 := (B2.only hW (by omega)).below hV
      have G1 := (B3'.only hW (by omega)).below hV
      have G2 := (B4'.only hW (by omega)).below hV
      have zW := hW.size
      have hs := sw1_seq n { t with D := D' } b a w.heap.size (w.heap.size + 1) (w.heap.size + 1 + 1) dD dS dX dH eD eS eX eH W V hT y2 x1 x2 x3 x4 hV G0 G1 G2
      rw [chR_eq (by omega) (by omega) (by omega), y1] at hs
      exact hs
    · have hp : prL t b a = [] := by unfold prL; rw [if_neg (fun h => he h.1)]
      rw [hsp] at c17
      have hz : (t.err == 0) = false := beq_eq_false_iff_ne.2 he
      clear hR he hsp
      generalize t.err = er at *
      go_enter Try.func6, Try.ntmps6
      go_wp2_with (first
        | (go_at_call 17; (with_reducible refine Calls.mono (c17 _) ?_); rintro e w1 ⟨rfl, rfl⟩)
        | (go_at_call 18; (with_reducible refine Calls.mono (c18 _ (belT (belT bel1 bel1) bel1)) ?_); rintro e w2 ⟨rfl, hb2⟩))
      go_ret
      refine ⟨19, _, rfl, enters_of Try.func19 (by kernel_rfl) rfl, belT (belT (belT bel1 bel1) bel1) hb2, fun W _ n V _ => ?_⟩
      rw [hp]
      exact sw0_seq n _ V
  · have hp : prL t b a = [] := by unfold prL; rw [if_neg (fun h => hsp h.2)]
    have hsf : spB b a = false := by simpa using hsp
    rw [hsf] at c17
    clear hR hsp c18
    go_enter Try.func6, Try.ntmps6
    go_wp2_with (go_at_call 17; (with_reducible refine Calls.mono (c17 _) ?_); rintro e w1 ⟨rfl, rfl⟩)
    go_ret
    refine ⟨19, _, rfl, enters_of Try.func19 (by kernel_rfl) rfl, belT (belT bel1 bel1) bel1, fun W _ n V _ => ?_⟩
    rw [hp]
    exact sw0_seq n _ V
end Go.Proofs.Ytddphepgcihdbaa
