import Derived.Test.YtddphepgcihdbaaTnF
namespace Go.Proofs.Ytddphepgcihdbaa
open Go.RowKit Go.Shelf
set_option linter.unusedVariables false
set_option linter.unusedSimpArgs false

attribute [local go_sem] Oper.semAt_some
theorem results_cell3 {fn : Func} {p q r : Tmp} {t1 t2 t3 : TypeId} (h : fn.results = #[.cell p t1, .cell q t2, .cell r t3]) (tmps : Array Value) (P : Program) (w : World) :
    (results fn tmps).run P w =
      ((asAddr (tmps.getD p undef)).run P w).andThen fun a w₁ => ((loadVar t1 a).run P w₁).andThen fun x w₂ => ((asAddr (tmps.getD q undef)).run P w₂).andThen fun b w₃ => ((loadVar t2 b).run P w₃).andThen fun y w₄ => ((asAddr (tmps.getD r undef)).run P w₄).andThen fun c w₅ => ((loadVar t3 c).run P w₅).andThen fun z w₆ => .ok (.tuple #[x, y, z]) w₆ := by
  simp only [results, h]
  simp [Sem.run_bind, Result.andThen]
set_option maxRecDepth 100000 in
set_option maxHeartbeats 8000000 in
theorem next_bad (m : Int) (t : Tt) (aD aS aX aH : Option Addr) (cD cS cX cH : Nat) (w : World) (hR : TR w t (.slice aD t.D.length cD) (.slice aS t.S.length cS) (.slice aX t.X.length cX) (.slice aH t.H.length cH)) (he : ¬ erF t m 210379679 = 0) : Calls Try.prog 8 #[.agg #[.string t.nm, .slice aD t.D.length cD, .int .i64 t.w0, .int .i64 t.w1, .int .i64 t.w2, .int .i64 t.w3, .int .i64 t.w4, .int .i64 t.w5, .int .i64 t.w6, .slice aS t.S.length cS, .slice aX t.X.length cX, .slice aH t.H.length cH], .int .i64 m] w fun e w' => e = .returned (.tuple #[.int .i64 0, .int .i64 0, .int .i64 (erF t m 210379679)]) ∧ Below w.heap.size w w' := by
  have c11 := fun W (hb : Below w.heap.size w W) => refusal_any m 210379679 t aD aS aX aH cD cS cX cH W (hR.below hb)
  clear hR
  generalize erF t m 210379679 = er at *
  have hz : (er == 0) = false := beq_eq_false_iff_ne.2 he
  have d4 := ((Has.new (w.alloc (.cells #[.string t.nm, .slice aD t.D.length cD, .int .i64 t.w0, .int .i64 t.w1, .int .i64 t.w2, .int .i64 t.w3, .int .i64 t.w4, .int .i64 t.w5, .int .i64 t.w6, .slice aS t.S.length cS, .slice aX t.X.length cX, .slice aH t.H.length cH] 29)) #[.int .i64 0] 3 (b := w.heap.size + 1) (by simp)).alloc (.cells #[.int .i64 0] 3)).alloc (.cells #[.int .i64 0] 36)
  have d5 := (Has.new ((w.alloc (.cells #[.string t.nm, .slice aD t.D.length cD, .int .i64 t.w0, .int .i64 t.w1, .int .i64 t.w2, .int .i64 t.w3, .int .i64 t.w4, .int .i64 t.w5, .int .i64 t.w6, .slice aS t.S.length cS, .slice aX t.X.length cX, .slice aH t.H.length cH] 29)).alloc (.cells #[.int .i64 0] 3)) #[.int .i64 0] 3 (b := w.heap.size + 1 + 1) (by simp)).alloc (.cells #[.int .i64 0] 36)
  have d6 := Has.new (((w.alloc (.cells #[.string t.nm, .slice aD t.D.length cD, .int .i64 t.w0, .int .i64 t.w1, .int .i64 t.w2, .int .i64 t.w3, .int .i64 t.w4, .int .i64 t.w5, .int .i64 t.w6, .slice aS t.S.length cS, .slice aX t.X.length cX, .slice aH t.H.length cH] 29)).alloc (.cells #[.int .i64 0] 3)).alloc (.cells #[.int .i64 0] 3)) #[.int .i64 0] 36 (b := w.heap.size + 1 + 1 + 1) (by simp)
  go_enter Try.func8, Try.ntmps8
  go_wp2_with (go_at_call 24; (with_reducible refine (c11 _ (belT (belT (belT bel1 bel1) bel1) bel1)).mono ?_); rintro e w1 ⟨rfl, hb1⟩; have k4 := d4.below hb1; have k5 := d5.below hb1; have k6 := d6.below hb1; obtain ⟨_, q4, r4⟩ := id k4; obtain ⟨_, q5, r5⟩ := id k5; obtain ⟨_, q6, r6⟩ := id k6)
  have hb := belT (belT (belT (belT bel1 bel1) bel1) bel1) hb1
  have j4 := ((k4.set 0 (by simp) (.int .i64 0)).far (c := w.heap.size + 1 + 1) (i := 0) (by omega) (.int .i64 0)).far (c := w.heap.size + 1 + 1 + 1) (i := 0) (by omega) (.int .i64 er)
  have j5 := ((k5.far (c := w.heap.size + 1) (i := 0) (by omega) (.int .i64 0)).set 0 (by simp) (.int .i64 0)).far (c := w.heap.size + 1 + 1 + 1) (i := 0) (by omega) (.int .i64 er)
  have j6 := ((k6.far (c := w.heap.size + 1) (i := 0) (by omega) (.int .i64 0)).far (c := w.heap.size + 1 + 1) (i := 0) (by omega) (.int .i64 0)).set 0 (by simp) (.int .i64 er)
  obtain ⟨_, u4, _⟩ := j4
  obtain ⟨_, u5, _⟩ := j5
  obtain ⟨_, u6, _⟩ := j6
  refine bodyPost_ret (v := .tuple #[.int .i64 0, .int .i64 0, .int .i64 er]) ?_ rfl ⟨rfl, ?_⟩
  · rw [results_cell3 rfl]
    simp [go_sem, u4, u5, u6]
  · exact ((hb.setCell (p := ⟨w.heap.size + 1, 0, none⟩) (by simp) _).setCell (p := ⟨w.heap.size + 1 + 1, 0, none⟩) (by simp; omega) _).setCell (p := ⟨w.heap.size + 1 + 1 + 1, 0, none⟩) (by simp; omega) _
set_option maxRecDepth 100000 in
set_option maxHeartbeats 8000000 in
theorem next_in (n : Nat) (m : Int) (t : Tt) (aD aS aX aH : Option Addr) (cD cS cX cH : Nat) (w : World) (hR : TR w t (.slice aD t.D.length cD) (.slice aS t.S.length cS) (.slice aX t.X.length cX) (.slice aH t.H.length cH)) (he : erF t m 210379679 = 0) : CallsIn Fence.wide n Try.prog 8 #[.agg #[.string t.nm, .slice aD t.D.length cD, .int .i64 t.w0, .int .i64 t.w1, .int .i64 t.w2, .int .i64 t.w3, .int .i64 t.w4, .int .i64 t.w5, .int .i64 t.w6, .slice aS t.S.length cS, .slice aX t.X.length cX, .slice aH t.H.length cH], .int .i64 m] w fun e w' => e = .returned (.tuple #[.int .i64 (nxP t m).1, .int .i64 (nxP t m).2, .int .i64 0]) ∧ Below w.heap.size w w' := by
  obtain ⟨he0, m0, m1⟩ := er_zero he
  have c11 := fun W (hb : Below w.heap.size w W) => callsIn_wide (n := n - 1) |>.2 (refusal_any m 210379679 t aD aS aX aH cD cS cX cH W (hR.below hb))
  rw [he] at c11
  have c12m := fun W (hb : Below w.heap.size w W) => callsIn_wide (n := n - 1) |>.2 (slotAt_any m m0 m1 t aD aS aX aH cD cS cX cH W (hR.below hb) he0)
  have c13 := fun b a W => callsIn_wide (n := n - 1) |>.2 (changes_any (.string t.nm) (.slice aD t.D.length cD) (.int .i64 t.w0) (.int .i64 t.w1) (.int .i64 t.w2) (.int .i64 t.w3) (.int .i64 t.w4) (.int .i64 t.w5) (.int .i64 t.w6) (.slice aS t.S.length cS) (.slice aX t.X.length cX) (.slice aH t.H.length cH) b a W)
  have hseq : Hid (∀ (bt bb ba : Nat) (V : World), Below w.heap.size w V → Has V bt #[.string t.nm, .slice aD t.D.length cD, .int .i64 t.w0, .int .i64 t.w1, .int .i64 t.w2, .int .i64 t.w3, .int .i64 t.w4, .int .i64 t.w5, .int .i64 t.w6, .slice aS t.S.length cS, .slice aX t.X.length cX, .slice aH t.H.length cH] → Has V bb #[.int .i64 m] → Has V ba #[.int .i64 (min (m + 20160) 210379679 + 1)] → SeqAt (n - 1) 43 #[.pointer (some ⟨bt, 0, none⟩), .pointer (some ⟨bb, 0, none⟩), .pointer (some ⟨ba, 0, none⟩)] (fun m => #[.int .i64 m]) (chL t m (min (m + 20160) 210379679 + 1)) (ChR w.heap.size bt bb ba) V) :=
    fun bt bb ba V h1 h2 h3 h4 => ch1_seq (n - 1) t m _ bt bb ba aD aS aX aH cD cS cX cH w V hR he0 m0 m1 (by omega) (by omega) h1 h2 h3 h4
  have hnn : Hid _ := @nx_none t m he0 m0 m1
  have hns : Hid _ := @nx_some t m he0 m0 m1
  have hcm : Hid (∀ x ∈ chL t m (min (m + 20160) 210379679 + 1), 0 ≤ x ∧ x ≤ 210379679) := fun x hx => by have := chL_mem hx; omega
  have hR' : Hid _ := hR
  clear hR
  generalize hLL : chL t m (min (m + 20160) 210379679 + 1) = L at *
  generalize hAA : min (m + 20160) 210379679 + 1 = A at *
  clear hLL
  have d4 := ((Has.new (w.alloc (.cells #[.string t.nm, .slice aD t.D.length cD, .int .i64 t.w0, .int .i64 t.w1, .int .i64 t.w2, .int .i64 t.w3, .int .i64 t.w4, .int .i64 t.w5, .int .i64 t.w6, .slice aS t.S.length cS, .slice aX t.X.length cX, .slice aH t.H.length cH] 29)) #[.int .i64 0] 3 (b := w.heap.size + 1) (by simp)).alloc (.cells #[.int .i64 0] 3)).alloc (.cells #[.int .i64 0] 36)
  have d5 := (Has.new ((w.alloc (.cells #[.string t.nm, .slice aD t.D.length cD, .int .i64 t.w0, .int .i64 t.w1, .int .i64 t.w2, .int .i64 t.w3, .int .i64 t.w4, .int .i64 t.w5, .int .i64 t.w6, .slice aS t.S.length cS, .slice aX t.X.length cX, .slice aH t.H.length cH] 29)).alloc (.cells #[.int .i64 0] 3)) #[.int .i64 0] 3 (b := w.heap.size + 1 + 1) (by simp)).alloc (.cells #[.int .i64 0] 36)
  have d6 := Has.new (((w.alloc (.cells #[.string t.nm, .slice aD t.D.length cD, .int .i64 t.w0, .int .i64 t.w1, .int .i64 t.w2, .int .i64 t.w3, .int .i64 t.w4, .int .i64 t.w5, .int .i64 t.w6, .slice aS t.S.length cS, .slice aX t.X.length cX, .slice aH t.H.length cH] 29)).alloc (.cells #[.int .i64 0] 3)).alloc (.cells #[.int .i64 0] 3)) #[.int .i64 0] 36 (b := w.heap.size + 1 + 1 + 1) (by simp)
  have d4' : Hid _ := d4
  have d5' : Hid _ := d5
  have d6' : Hid _ := d6
  clear d4 d5 d6
  refine callsIn_of_wp_marks Try.func8 rfl trivial ?_ rfl
  simp only [Try.ntmps8, List.size_toArray, List.length_cons, List.length_nil, Nat.reduceAdd, Nat.reduceSub, Array.replicate_succ, Array.replicate_zero, List.push_toArray, List.append_toArray, List.nil_append, List.cons_append]
  gi_wp2_with (refine ⟨trivial, fun h => (by cases h), ?_⟩; first
    | (gi_at_call 24; refine (c11 _ (belT (belT (belT bel1 bel1) bel1) bel1)).mono ?_; rintro e w2 ⟨rfl, hb2⟩; have B0 := (((((Has.new w #[.string t.nm, .slice aD t.D.length cD, .int .i64 t.w0, .int .i64 t.w1, .int .i64 t.w2, .int .i64 t.w3, .int .i64 t.w4, .int .i64 t.w5, .int .i64 t.w6, .slice aS t.S.length cS, .slice aX t.X.length cX, .slice aH t.H.length cH] 29 rfl).alloc (.cells #[.int .i64 0] 3)).alloc (.cells #[.int .i64 0] 3)).alloc (.cells #[.int .i64 0] 36)).below hb2); obtain ⟨_, q0, _⟩ := id B0)
    | (gi_at_call 22; refine (c12m _ (belT (belT (belT (belT bel1 bel1) bel1) bel1) hb2)).mono ?_; rintro e w3 ⟨rfl, hb3⟩; have B1 := B0.below hb3; obtain ⟨_, q1, _⟩ := id B1)
    | (gi_at_call 23; refine (c13 _ _ _).mono ?_; rintro e w4 ⟨rfl, hb4, hz4, g1, g2, g3⟩))
  all_goals
    simp only [World.size_alloc] at g1 g2 g3 hz4
    have g3' : Has w4 (w3.heap.size + 1 + 1 + 1) #[.int .i64 A] := by rw [show A = (if 210379679 < m + 20160 then 210379679 else m + 20160) + 1 from by split <;> omega]; exact g3
    have hb24 := belT hb3 (belT (bel1 (o := .cells #[.int .i64 (slF t m)] 3)) hb4)
    have hS0 : NxS w w3.heap.size (slF t m) #[.string t.nm, .slice aD t.D.length cD, .int .i64 t.w0, .int .i64 t.w1, .int .i64 t.w2, .int .i64 t.w3, .int .i64 t.w4, .int .i64 t.w5, .int .i64 t.w6, .slice aS t.S.length cS, .slice aX t.X.length cX, .slice aH t.H.length cH] w4 := ⟨B0.below hb24, Has.below (Has.below d4'.out hb2) hb24, Has.below (Has.below d5'.out hb2) hb24, Has.below (Has.below d6'.out hb2) hb24, Has.below (Has.new w3 _ 3 rfl) hb4, belT (belT (belT (belT (belT bel1 bel1) bel1) bel1) hb2) hb24⟩
    have hz3 : w.heap.size + 4 ≤ w3.heap.size := by have h1 := hb2.size; have h2 := hb3.size; simp at h1; omega
    have hS0' : Hid _ := hS0
    clear q0 q1 B0 B1 c11 c12m c13 hS0
    refine outer5 (R := ChR w.heap.size (w3.heap.size + 1) (w3.heap.size + 1 + 1) (w3.heap.size + 1 + 1 + 1)) (L := L) t aD aS aX aH cD cS cX cH w hR'.out w4 ?_ ?_ ?_ (by omega) (by omega) he0 hcm.out hS0'.out ?_ ?_
    · intro V hV
      exact hseq.out _ _ _ V (hS0'.out.hb.trans (hV.mono (by omega))) (g1.below hV) (g2.below hV) (g3'.below hV)
    · intro k hk
      rcases hk with h | h | h | h <;> omega
    · refine ⟨fun h => ?_, fun h => ?_, fun h => ?_⟩ <;> (rcases h with h | h | h | h <;> omega)
    · intro X hall hX hD
      dsimp only
      have hres := hnn.out hall
      obtain ⟨_, u4, v4⟩ := id hX.h4
      obtain ⟨_, u5, v5⟩ := id hX.h5
      obtain ⟨_, u6, v6⟩ := id hX.h6
      obtain ⟨_, u7, v7⟩ := id hX.hn
      have hne : w3.heap.size ≠ w.heap.size + 1 := by omega
      gi_wp2
      gi_region
      gi_wp2
      have hF := hX.found (-1) (slF t m)
      have hD2 : (((X.setCell ⟨w.heap.size + 1, 0, none⟩ (.int .i64 (-1))).setCell ⟨w.heap.size + 1 + 1, 0, none⟩ (.int .i64 (slF t m))).setCell ⟨w.heap.size + 1 + 1 + 1, 0, none⟩ (.int .i64 0)).drew.heap[w4.heap.size]? = some (.deferred (some [])) :=
        ((Below.heap_setCell _ _ _ _ (by show w4.heap.size ≠ w.heap.size + 1 + 1 + 1; omega)).trans ((Below.heap_setCell _ _ _ _ (by show w4.heap.size ≠ w.heap.size + 1 + 1; omega)).trans (Below.heap_setCell _ _ _ _ (by show w4.heap.size ≠ w.heap.size + 1; omega)))).trans hD
      generalize ((X.setCell ⟨w.heap.size + 1, 0, none⟩ (.int .i64 (-1))).setCell ⟨w.heap.size + 1 + 1, 0, none⟩ (.int .i64 (slF t m))).setCell ⟨w.heap.size + 1 + 1 + 1, 0, none⟩ (.int .i64 0) = Y at *
      have hY := hF.below (B := Y.drew.putObj w4.heap.size (.deferred none)) (below_put (Below.drew (.refl w4.heap.size Y)) (.deferred none) (Nat.le_refl _)) (by omega)
      obtain ⟨_, u4, _⟩ := id hY.h4
      obtain ⟨_, u5, _⟩ := id hY.h5
      obtain ⟨_, u6, _⟩ := id hY.h6
      refine ⟨by simp, .inl ⟨_, _, rfl, run_takeDeferred hD2, ?_⟩⟩
      refine ⟨.tuple #[.int .i64 (-1), .int .i64 (slF t m), .int .i64 0], ?_, by rw [hres], hY.hb⟩
      rw [results_cell3 rfl]
      simp [go_sem, u4, u5, u6]
    · intro X pr x hp h1 h2 hX hD
      obtain ⟨r, hr⟩ := hp
      have hres := hns.out (pr := pr) (x := x) (r := r) (by rw [← hr]; simp) h1 h2
      dsimp only
      gi_wp2
      have hY := hX.below (B := X.putObj w4.heap.size (.deferred none)) (below_put (.refl w4.heap.size X) (.deferred none) (Nat.le_refl _)) (by omega)
      obtain ⟨_, u4, _⟩ := id hY.h4
      obtain ⟨_, u5, _⟩ := id hY.h5
      obtain ⟨_, u6, _⟩ := id hY.h6
      refine ⟨by simp, .inl ⟨_, _, rfl, run_takeDeferred hD, ?_⟩⟩
      refine ⟨.tuple #[.int .i64 x, .int .i64 (slF t x), .int .i64 0], ?_, by rw [hres], hY.hb⟩
      rw [results_cell3 rfl]
      simp [go_sem, u4, u5, u6]
theorem next_any (m : Int) (t : Tt) (aD aS aX aH : Option Addr) (cD cS cX cH : Nat) (w : World) (hR : TR w t (.slice aD t.D.length cD) (.slice aS t.S.length cS) (.slice aX t.X.length cX) (.slice aH t.H.length cH)) : Calls Try.prog 8 #[.agg #[.string t.nm, .slice aD t.D.length cD, .int .i64 t.w0, .int .i64 t.w1, .int .i64 t.w2, .int .i64 t.w3, .int .i64 t.w4, .int .i64 t.w5, .int .i64 t.w6, .slice aS t.S.length cS, .slice aX t.X.length cX, .slice aH t.H.length cH], .int .i64 m] w fun e w' => e = .returned (.tuple #[.int .i64 (nxM t m), .int .i64 (nxS t m), .int .i64 (erF t m 210379679)]) ∧ Below w.heap.size w w' := by
  unfold nxM nxS
  by_cases he : erF t m 210379679 = 0
  · rw [if_pos he, if_pos he, he]
    exact callsIn_wide.1 (next_in 5 m t aD aS aX aH cD cS cX cH w hR he)
  · rw [if_neg he, if_neg he]
    exact next_bad m t aD aS aX aH cD cS cX cH w hR he
end Go.Proofs.Ytddphepgcihdbaa
