import Derived.Test.YtddphepgcihdbaaGreatTnP
import Derived.Test.YtddphepgcihdbaaGreatTnT
import Derived.Test.YtddphepgcihdbaaGreatTnQ
import Derived.Test.YtddphepgcihdbaaGreatTnH
import Derived.Test.YtddphepgcihdbaaGreatTeB
import Derived.Test.YtddphepgcihdbaaGreatTeF
namespace Go.Proofs.YtddphepgcihdbaaGreat
open Go.RowKit Go.Shelf
set_option linter.unusedVariables false
set_option linter.unusedSimpArgs false

attribute [local go_sem] Oper.semAt_some
theorem rm_slF {t : Tt} {Ls : List Rm} (hL : Ls.map (·.x) = t.D) : slF (rmT t Ls) = slF t := funext (rm_sl hL)
theorem rm_prL {t : Tt} {Ls : List Rm} (hL : Ls.map (·.x) = t.D) (b a : Int) : prL (rmT t Ls) b a = prL t b a := by
  unfold prL
  rw [rm_err hL, rm_slF hL]
theorem rm_nxM {t : Tt} {Ls : List Rm} (hL : Ls.map (·.x) = t.D) (m : Int) : nxM (rmT t Ls) m = nxM t m ∧ nxS (rmT t Ls) m = nxS t m := by
  unfold nxM nxS nxP
  rw [rm_er hL, rm_slF hL]
  exact ⟨rfl, rfl⟩
theorem eql_in (d F : Nat) (lb : Array Value) (w : World) : (Op.equalIn (d + 1) 40 (.func (.func F) #[] lb) .nilFunc).run Tryz.prog w = .ok false w := by
  simp [Op.equalIn, run_underlying Tryz.underlying40]
theorem eql_fn (F : Nat) (lb : Array Value) (w : World) : (binOp .eql 40 (.func (.func F) #[] lb) .nilFunc).run Tryz.prog w = .ok (.bool false) w := by
  simp only [binOp]
  simp [Op.equal, Op.maxDepth, eql_in 9999 F lb w]
/-- The room's table is blotted: of its own blocks alone anything turns. -/
theorem blot_room {w W1 W : World} {t : Tt} {vD vS vX vH : Value} (h0 : TR w t vD vS vX vH) {CB RC : Array Value} {Ls : List Rm} {g8 cap8 gS capS gX capX gH capH rcp : Nat} {ra : Option Addr} (hL : Ls.map (·.x) = t.D) (c1 : t.D.length ≤ cap8) (c2 : t.S.length ≤ capS) (c3 : t.X.length ≤ capX) (c4 : t.H.length ≤ capH) (hG : RG w W1 CB RC ((((Ls.map Rm.own ++ [⟨49, 2, .slice (some ⟨g8, 0, none⟩) (t.D.length + 2) cap8, t.D.length + 2, cellsF Rm.dc Ls ++ room2⟩, ⟨47, 1, .slice ra t.D.length rcp, t.D.length, cellsF Rm.rc Ls⟩]) ++ [⟨52, 9, .slice (some ⟨gS, 0, none⟩) (t.S.length + 2) capS, t.S.length + 2, cellsF Sn.cs t.S ++ mkS⟩]) ++ [⟨54, 2, .slice (some ⟨gX, 0, none⟩) (t.X.length + 2) capX, t.X.length + 2, cellsF Ex.cs t.X ++ mk2⟩]) ++ [⟨56, 2, .slice (some ⟨gH, 0, none⟩) (t.H.length + 2) capH, t.H.length + 2, cellsF Sh.cs t.H ++ mk2⟩])) (hb : Below W1.heap.size W1 W) :
    Calls Tryz.prog 10 #[.agg #[.string t.nm, .slice (some ⟨g8, 0, none⟩) t.D.length cap8, .int .i64 t.w0, .int .i64 t.w1, .int .i64 t.w2, .int .i64 t.w3, .int .i64 t.w4, .int .i64 t.w5, .int .i64 t.w6, .slice (some ⟨gS, 0, none⟩) t.S.length capS, .slice (some ⟨gX, 0, none⟩) t.X.length capX, .slice (some ⟨gH, 0, none⟩) t.H.length capH]] W fun e w' => (∃ v, e = .returned v) ∧ Only (fun k => w.heap.size + 2 ≤ k ∧ k < W1.heap.size) W w' := by
  have hT := room_tr h0 hL c1 c2 c3 c4 (hG.below hb)
  obtain ⟨j1, j2, j3, j4, j5, j6⟩ := hG.parts
  obtain ⟨i1, i2, i3, i4, i5, i6⟩ := (hG.below hb).parts
  have hnL : Ls.length = t.D.length := by rw [← hL]; simp
  have hz := hb.size
  have d1 := h0.dl
  have d2 := h0.sl
  have d3 := h0.xl
  have d4 := h0.hl
  have cB := blot_any (fun k => w.heap.size + 2 ≤ k ∧ k < W1.heap.size) (w.heap.size + 2) Ls g8 cap8 (t.D.length + 2) gS t.S.length (t.S.length + 2) capS gX t.X.length (t.X.length + 2) capX gH t.H.length (t.H.length + 2) capH t.nm t.w0 t.w1 t.w2 t.w3 t.w4 t.w5 t.w6 W
    (fun k hk => by omega) (own_lt j2 g8 rfl) (own_lt j4 gS rfl) (own_lt j5 gX rfl) (own_lt j6 gH rfl) (fun r hr => own_lt (j1 r hr) r.g rfl) (by omega) (by omega) (by omega) (by omega) (by omega) (by omega) (by omega) (by omega)
    (fun r hr => by have := h0.rl r.x (by rw [← hL]; exact List.mem_map_of_mem hr); omega)
    (fun k hk => by
      have hlt : k < (rmT t Ls).D.length := by show k < (Ls.map Rm.dk).length; simpa using hk
      obtain ⟨g, o, e, _, P⟩ := (hT.d.ln).resolve_left (by intro e; rw [e] at hlt; simp at hlt)
      injection e with e
      injection e with e1 e2 _
      subst e1
      subst e2
      have := P k hlt 1 _ rfl
      rw [Nat.zero_add] at this
      rw [this, show (rmT t Ls).D[k]'hlt = Rm.dk Ls[k] from by simp [rmT]]
      rfl)
    ⟨_, i2⟩ (fun r hr => ⟨_, i1 r hr⟩) ⟨_, i4⟩ ⟨_, i5⟩ ⟨_, i6⟩
  rw [hnL] at cB
  exact cB
set_option maxRecDepth 100000 in
set_option maxHeartbeats 8000000 in
theorem nexts_in (n : Nat) (m b a st : Int) (hb0 : -9223372036854775808 ≤ b ∧ b ≤ 9223372036854775807) (ha0 : -9223372036854775808 ≤ a ∧ a ≤ 9223372036854775807) (t : Tt) (aD aS aX aH : Option Addr) (cD cS cX cH : Nat) (w : World) (hR : TR w t (.slice aD t.D.length cD) (.slice aS t.S.length cS) (.slice aX t.X.length cX) (.slice aH t.H.length cH)) : CallsIn Fence.wide n Tryz.prog 3 #[.agg #[.string t.nm, .slice aD t.D.length cD, .int .i64 t.w0, .int .i64 t.w1, .int .i64 t.w2, .int .i64 t.w3, .int .i64 t.w4, .int .i64 t.w5, .int .i64 t.w6, .slice aS t.S.length cS, .slice aX t.X.length cX, .slice aH t.H.length cH], .int .i64 m, .int .i64 b, .int .i64 a, .int .i64 st] w fun e w' => e = .returned (.bool true) ∧ Below w.heap.size w w' := by
  refine callsIn_of_wp_marks Tryz.func3 rfl trivial ?_ rfl
  simp only [Tryz.ntmps3, List.size_toArray, List.length_cons, List.length_nil, Nat.reduceAdd, Nat.reduceSub, Array.replicate_succ, Array.replicate_zero, List.push_toArray, List.append_toArray, List.nil_append, List.cons_append]
  gi_wp2_with fail
  refine ⟨trivial, fun h => (by cases h), ?_⟩
  have HY0 : Has (((w.alloc (.cells #[.string t.nm, .slice aD t.D.length cD, .int .i64 t.w0, .int .i64 t.w1, .int .i64 t.w2, .int .i64 t.w3, .int .i64 t.w4, .int .i64 t.w5, .int .i64 t.w6, .slice aS t.S.length cS, .slice aX t.X.length cX, .slice aH t.H.length cH] 28)).alloc (.cells #[.int .i64 st] 3)).alloc (.cells #[.bool false] 4)) w.heap.size #[.string t.nm, .slice aD t.D.length cD, .int .i64 t.w0, .int .i64 t.w1, .int .i64 t.w2, .int .i64 t.w3, .int .i64 t.w4, .int .i64 t.w5, .int .i64 t.w6, .slice aS t.S.length cS, .slice aX t.X.length cX, .slice aH t.H.length cH] := ((Has.new _ _ _ rfl).alloc _).alloc _
  have HY1 : Has (((w.alloc (.cells #[.string t.nm, .slice aD t.D.length cD, .int .i64 t.w0, .int .i64 t.w1, .int .i64 t.w2, .int .i64 t.w3, .int .i64 t.w4, .int .i64 t.w5, .int .i64 t.w6, .slice aS t.S.length cS, .slice aX t.X.length cX, .slice aH t.H.length cH] 28)).alloc (.cells #[.int .i64 st] 3)).alloc (.cells #[.bool false] 4)) (w.heap.size + 1) #[.int .i64 st] := (Has.new _ _ _ (by simp)).alloc _
  have HY2 : Has (((w.alloc (.cells #[.string t.nm, .slice aD t.D.length cD, .int .i64 t.w0, .int .i64 t.w1, .int .i64 t.w2, .int .i64 t.w3, .int .i64 t.w4, .int .i64 t.w5, .int .i64 t.w6, .slice aS t.S.length cS, .slice aX t.X.length cX, .slice aH t.H.length cH] 28)).alloc (.cells #[.int .i64 st] 3)).alloc (.cells #[.bool false] 4)) (w.heap.size + 1 + 1) #[.bool false] := Has.new _ _ _ (by simp)
  have HB : Below w.heap.size w (((w.alloc (.cells #[.string t.nm, .slice aD t.D.length cD, .int .i64 t.w0, .int .i64 t.w1, .int .i64 t.w2, .int .i64 t.w3, .int .i64 t.w4, .int .i64 t.w5, .int .i64 t.w6, .slice aS t.S.length cS, .slice aX t.X.length cX, .slice aH t.H.length cH] 28)).alloc (.cells #[.int .i64 st] 3)).alloc (.cells #[.bool false] 4)) := belT (belT bel1 bel1) bel1
  have HZ : w.heap.size + 3 ≤ (((w.alloc (.cells #[.string t.nm, .slice aD t.D.length cD, .int .i64 t.w0, .int .i64 t.w1, .int .i64 t.w2, .int .i64 t.w3, .int .i64 t.w4, .int .i64 t.w5, .int .i64 t.w6, .slice aS t.S.length cS, .slice aX t.X.length cX, .slice aH t.H.length cH] 28)).alloc (.cells #[.int .i64 st] 3)).alloc (.cells #[.bool false] 4)).heap.size := by simp
  have hR1 := hR.below HB
  clear hR
  generalize (((w.alloc (.cells #[.string t.nm, .slice aD t.D.length cD, .int .i64 t.w0, .int .i64 t.w1, .int .i64 t.w2, .int .i64 t.w3, .int .i64 t.w4, .int .i64 t.w5, .int .i64 t.w6, .slice aS t.S.length cS, .slice aX t.X.length cX, .slice aH t.H.length cH] 28)).alloc (.cells #[.int .i64 st] 3)).alloc (.cells #[.bool false] 4)) = Y at *
  gi_at_call 4
  refine ((callsIn_wide (n := n - 1) |>.2 (roomy_any t aD aS aX aH cD cS cX cH Y hR1))).mono ?_
  rintro e w1 ⟨Ls, g8, cap8, ra, rcp, gS, capS, gX, capX, gH, capH, rfl, hL, q1, q2, q3, q4, hG⟩
  have hlD : (rmT t Ls).D.length = t.D.length := by show (Ls.map Rm.dk).length = _; rw [← hL]; simp
  have hT : ∀ W', Below w1.heap.size w1 W' → TR W' (rmT t Ls) (.slice (some ⟨g8, 0, none⟩) (rmT t Ls).D.length cap8) (.slice (some ⟨gS, 0, none⟩) t.S.length capS) (.slice (some ⟨gX, 0, none⟩) t.X.length capX) (.slice (some ⟨gH, 0, none⟩) t.H.length capH) := fun W' hb => room_tr hR1 hL q1 q2 q3 q4 (hG.below hb)
  have hR2 : ∀ W', Below w1.heap.size w1 W' → TR W' t (.slice aD t.D.length cD) (.slice aS t.S.length cS) (.slice aX t.X.length cX) (.slice aH t.H.length cH) := fun W' hb => hR1.below (belT hG.hb hb)
  have c5 : ∀ W', Below w1.heap.size w1 W' → Calls Tryz.prog 5 #[.agg #[.string t.nm, .slice (some ⟨g8, 0, none⟩) t.D.length cap8, .int .i64 t.w0, .int .i64 t.w1, .int .i64 t.w2, .int .i64 t.w3, .int .i64 t.w4, .int .i64 t.w5, .int .i64 t.w6, .slice (some ⟨gS, 0, none⟩) t.S.length capS, .slice (some ⟨gX, 0, none⟩) t.X.length capX, .slice (some ⟨gH, 0, none⟩) t.H.length capH], .int .i64 m] W' fun e w' => e = .returned (.tuple #[.int .i64 (nxM t m), .int .i64 (nxS t m), .int .i64 (erF t m 210379679)]) ∧ Below W'.heap.size W' w' := by
    intro W' hb
    have h9 := next_any m (rmT t Ls) (some ⟨g8, 0, none⟩) (some ⟨gS, 0, none⟩) (some ⟨gX, 0, none⟩) (some ⟨gH, 0, none⟩) cap8 capS capX capH W' (hT W' hb)
    rw [(rm_nxM hL m).1, (rm_nxM hL m).2, rm_er hL, hlD] at h9
    exact h9
  have c8 : ∀ W', Below w1.heap.size w1 W' → Calls Tryz.prog 8 #[.agg #[.string t.nm, .slice (some ⟨g8, 0, none⟩) t.D.length cap8, .int .i64 t.w0, .int .i64 t.w1, .int .i64 t.w2, .int .i64 t.w3, .int .i64 t.w4, .int .i64 t.w5, .int .i64 t.w6, .slice (some ⟨gS, 0, none⟩) t.S.length capS, .slice (some ⟨gX, 0, none⟩) t.X.length capX, .slice (some ⟨gH, 0, none⟩) t.H.length capH], .int .i64 b, .int .i64 a] W' fun e w' => SwP t b a W' e w' := by
    intro W' hb
    have h9 := switches_any b a hb0 ha0 (rmT t Ls) (some ⟨g8, 0, none⟩) (some ⟨gS, 0, none⟩) (some ⟨gX, 0, none⟩) (some ⟨gH, 0, none⟩) cap8 capS capX capH W' (hT W' hb)
    unfold SwP at h9
    rw [rm_prL hL, hlD] at h9
    exact h9
  simp only [SwP] at c8
  have c6 := fun W' (hb : Below w1.heap.size w1 W') => refNext_any m t aD aS aX aH cD cS cX cH W' (hR2 W' hb)
  have c7 := fun W' (hb : Below w1.heap.size w1 W') => pairs_any b a t aD aS aX aH cD cS cX cH W' (hR2 W' hb)
  have c9 := fun W' (hb : Below w1.heap.size w1 W') => whole_any t aD aS aX aH cD cS cX cH Y W' (hR2 W' hb) hL q1 q2 q3 q4 (hG.below hb)
  have hG' : Hid _ := hG
  have hL' : Hid _ := hL
  have hR3 : Hid _ := hR1
  have B0 := HY0.below hG.hb
  have R0 := hG.room
  have hz0 := Below.refl w1.heap.size w1
  clear hT hR2 hG HY0 hR1 hlD hL
  obtain ⟨nx1, hnx1⟩ : ∃ x, x = nxM t m := ⟨_, rfl⟩
  generalize nxM t m = a1 at *
  generalize nxS t m = a2 at *
  generalize erF t m 210379679 = a3 at *
  clear hnx1 nx1
  obtain ⟨_, bq0, _⟩ := id B0
  obtain ⟨_, rq0, _⟩ := id R0
  gi_wp2_with fail
  refine ⟨trivial, fun h => (by cases h), ?_⟩
  gi_at_call 5
  refine (callsIn_wide (n := n - 1) |>.2 (c5 _ hz0)).mono ?_
  rintro e v1 ⟨rfl, hb1⟩
  have B1 := B0.below hb1
  have R1 := R0.below hb1
  have hz1 := belT hz0 hb1
  clear bq0 rq0 B0 R0
  obtain ⟨_, bq1, _⟩ := id B1
  gi_wp2_with fail
  refine ⟨trivial, fun h => (by cases h), ?_⟩
  gi_at_call 6
  refine (callsIn_wide (n := n - 1) |>.2 (c6 _ hz1)).mono ?_
  rintro e v2 ⟨rfl, hb2⟩
  have B2 := B1.below hb2
  have R2 := R1.below hb2
  have hz2 := belT hz1 hb2
  clear bq1 B1 R1
  obtain ⟨_, bq2, _⟩ := id B2
  gi_wp2_with fail
  refine ⟨trivial, fun h => (by cases h), ?_⟩
  gi_at_call 7
  refine (callsIn_wide (n := n - 1) |>.2 (c7 _ hz2)).mono ?_
  rintro e v3 ⟨⟨vl, rfl, hFl, hgl⟩, hb3⟩
  have hPL := prL_len t b a
  generalize prL t b a = PL at *
  obtain ⟨la, lc, rfl, hl⟩ := hFl.any
  have B3 := B2.below hb3
  have R3 := R2.below hb3
  have hz3 := belT hz2 hb3
  have B4 := B3.alloc (.cells #[.slice la PL.length lc] 37)
  have R4 := R3.alloc (.cells #[.slice la PL.length lc] 37)
  have L4 : Has (v3.alloc (.cells #[.slice la PL.length lc] 37)) v3.heap.size #[.slice la PL.length lc] := Has.new _ _ _ rfl
  have hz4 := belT hz3 (bel1 (o := .cells #[.slice la PL.length lc] 37))
  have hs4 : v3.heap.size + 1 ≤ (v3.alloc (.cells #[.slice la PL.length lc] 37)).heap.size := by simp
  clear bq2 B2 R2 B3 R3
  obtain ⟨_, rq4, _⟩ := id R4
  gi_wp2_with fail
  refine ⟨trivial, fun h => (by cases h), ?_⟩
  gi_at_call 8
  have hu3 : Below v3.heap.size v3 (v3.alloc (.cells #[.slice la PL.length lc] 37)) := bel1
  generalize (v3.alloc (.cells #[.slice la PL.length lc] 37)) = u3 at *
  refine (callsIn_wide (n := n - 1) |>.2 (c8 _ hz4)).mono ?_
  rintro e v4 ⟨F, lb, rfl, hen, hb4, hsq⟩
  have B5 := B4.below hb4
  have R5 := R4.below hb4
  have L5 := L4.below hb4
  have hz5 := belT hz4 hb4
  have heq := eql_fn F lb
  clear rq4 B4 R4 L4
  obtain ⟨_, bq5, _⟩ := id B5
  gi_wp2_with fail
  refine ⟨trivial, fun h => (by cases h), ?_⟩
  gi_at_call 9
  refine (callsIn_wide (n := n - 1) |>.2 (c9 _ hz5)).mono ?_
  rintro e v5 ⟨rfl, hb5⟩
  have B6 := B5.below hb5
  have R6 := R5.below hb5
  have L6 := L5.below hb5
  have hz6 := belT hz5 hb5
  clear bq5 B5 R5 L5 heq c5 c6 c7 c8 c9
  have cB' : Hid _ := blot_room hR3.out hL'.out q1 q2 q3 q4 hG'.out hz6
  obtain ⟨_, rq6, _⟩ := id R6
  gi_wp2_with fail
  refine ⟨trivial, fun h => (by cases h), ?_⟩
  gi_at_call 10
  refine (callsIn_wide (n := n - 1) |>.2 cB'.out).mono ?_
  rintro e v6 ⟨⟨vv, rfl⟩, hb6⟩
  have zz1 := hb1.size
  have zz2 := hb2.size
  have zz3 := hb3.size
  have zz4 := hb4.size
  have zz5 := hb5.size
  have zz6 := hz6.size
  have hs1 := hG'.out.sz
  have Y1 : Has v6 (w.heap.size + 1) #[.int .i64 st] := Has.only ((HY1.below hG'.out.hb).below hz6) hb6 (by omega)
  have Y2 : Has v6 (w.heap.size + 1 + 1) #[.bool false] := Has.only ((HY2.below hG'.out.hb).below hz6) hb6 (by omega)
  have L7 : Has v6 v3.heap.size #[.slice la PL.length lc] := L6.only hb6 (by omega)
  have hbw : Below w.heap.size w v6 := (HB.trans ((belT hG'.out.hb hz6).mono (by omega))).trans ⟨hb6.os, hb6.tape, hb6.output, hb6.size, fun k hk => hb6.block k (by omega) (by omega)⟩
  have zz7 := hb6.size
  have hl7 : Hid (PL = [] ∨ ∃ g o, la = some ⟨g, o, none⟩ ∧ g < v6.heap.size ∧ ∀ (i : Nat) (h : i < PL.length) (j : Nat) (u : Value), (prC PL[i])[j]? = some u → v6.cell? ⟨g, o + i * 2 + j, none⟩ = some u) := by
    rcases hl with h | ⟨g, o, rfl, hg, hc⟩
    · exact .inl h
    · have hg2 := hgl g rfl
      have e : v6.heap[g]? = v3.heap[g]? := ((hb6.block g (by omega) (by omega)).trans (hb5.block g (by omega))).trans ((hb4.block g (by omega)).trans (hu3.block g hg))
      exact .inr ⟨g, o, rfl, by omega, fun i h j u hu => (World.cell?_of_block (w := v3) e).trans (hc i h j u hu)⟩
  have hsq' : Hid (∀ m V, Below v6.heap.size v6 V → SeqAt m F lb (fun p : Int × Int => #[.int .i64 p.1, .int .i64 p.2]) PL (fun k => k < v6.heap.size) V) := hsq v6 ((Only.of_below hb5).trans (hb6.mono (fun k hk => by omega)))
  have hen' : Hid _ := hen
  clear hsq hen hl hgl hFl B6 R6 L6 rq6 cB' hG' hL' hR3 HY1 HY2 HB hb1 hb2 hb3 hb4 hb5 hb6 hz0 hz1 hz2 hz3 hz4 hz5 hz6 q1 q2 q3 q4 hu3
  gi_wp2_with fail
  rename_i K hK
  have U0 : Has (v6.alloc (.cells #[.int .i64 0] 3)) v6.heap.size #[.int .i64 0] := Has.new _ _ _ rfl
  have U1 : Below v6.heap.size v6 (v6.alloc (.cells #[.int .i64 0] 3)) := bel1
  have U2 : v6.heap.size + 1 = (v6.alloc (.cells #[.int .i64 0] 3)).heap.size := by simp
  have Y1a := Y1.below U1
  have Y2a := Y2.below U1
  have L8 := L7.below U1
  have hl8 : Hid (PL = [] ∨ ∃ g o, la = some ⟨g, o, none⟩ ∧ g < (v6.alloc (.cells #[.int .i64 0] 3)).heap.size ∧ g ≠ v6.heap.size ∧ ∀ (i : Nat) (h : i < PL.length) (j : Nat) (u : Value), (prC PL[i])[j]? = some u → (v6.alloc (.cells #[.int .i64 0] 3)).cell? ⟨g, o + i * 2 + j, none⟩ = some u) := by
    rcases hl7.out with h | ⟨g, o, h1, h2, h3⟩
    · exact .inl h
    · exact .inr ⟨g, o, h1, by omega, by omega, fun i h j u hu => (World.cell?_of_block (w := v6) (U1.block g h2)).trans (h3 i h j u hu)⟩
  have hsq2 : Hid (∀ m A V, Only (fun k => k = v6.heap.size) (v6.alloc (.cells #[.int .i64 0] 3)) A → Below A.heap.size A V → SeqAt m F lb (fun p : Int × Int => #[.int .i64 p.1, .int .i64 p.2]) PL (fun k => k < v6.heap.size) V) := by
    intro m A V hA hV
    have hz := hA.size
    refine hsq'.out m V ⟨hV.os.trans (hA.os.trans U1.os), hV.tape.trans (hA.tape.trans U1.tape), hV.output.trans (hA.output.trans U1.output), ?_, fun k hk => (hV.block k (by omega)).trans ((hA.block k (by omega) (by omega)).trans (U1.block k hk))⟩
    have := hV.size; omega
  have hbw2 := hbw.trans (U1.mono (by omega))
  generalize (v6.alloc (.cells #[.int .i64 0] 3)) = U at *
  clear hsq' hl7 Y1 Y2 L7
  refine rng1 (R := fun k => k < v6.heap.size) (bs := w.heap.size + 1) (bl := v3.heap.size) (bi := v6.heap.size) (st := st) (la := la) (lc := lc) U (fun V hV => hsq2.out _ U V (Only.refl _ _) hV) (fun k hk => by omega) (by omega) hen'.out Y1a L8 U0 (by omega) (by omega) hPL hl8.out ?done ?stop
  case done =>
    intro A hA hI hD
    have htt : ((PL.length : Int) == (PL.length : Int)) = true := by simp
    dsimp only
    refine hK _ _ ?_
    obtain ⟨_, qs, _⟩ := id (Y1a.only hA (by omega))
    obtain ⟨_, ql, _⟩ := id (L8.only hA (by omega))
    have A0 := hI.set 0 (by simp) (.int .i64 0)
    obtain ⟨_, qi, fi⟩ := id hI
    gi_wp2
    rename_i K2 hK2
    have A0 : Has (A.setCell ⟨v6.heap.size, 0, none⟩ (.int .i64 0)) v6.heap.size #[.int .i64 0] := by have := hI.set 0 (by simp) (.int .i64 0); simpa using this
    have hA2 : Only (fun k => k = v6.heap.size) U (A.setCell ⟨v6.heap.size, 0, none⟩ (.int .i64 0)) := hA.set rfl _
    have hD2 : (A.setCell ⟨v6.heap.size, 0, none⟩ (.int .i64 0)).heap[U.heap.size]? = some (.deferred (some [])) := (Below.heap_setCell _ _ _ _ (by show U.heap.size ≠ v6.heap.size; omega)).trans hD
    have zD : U.heap.size < (A.setCell ⟨v6.heap.size, 0, none⟩ (.int .i64 0)).heap.size := (Array.getElem?_eq_some_iff.1 hD2).1
    clear qs ql qi fi hD hI hA
    generalize (A.setCell ⟨v6.heap.size, 0, none⟩ (.int .i64 0)) = A2 at *
    have hl9 : Hid (PL = [] ∨ ∃ g o, la = some ⟨g, o, none⟩ ∧ g < A2.heap.size ∧ g ≠ v6.heap.size ∧ ∀ (i : Nat) (h : i < PL.length) (j : Nat) (u : Value), (prC PL[i])[j]? = some u → A2.cell? ⟨g, o + i * 2 + j, none⟩ = some u) := by
      rcases hl8.out with h | ⟨g, o, h1, h2, h2', h3⟩
      · exact .inl h
      · exact .inr ⟨g, o, h1, by omega, h2', fun i h j u hu => (World.cell?_of_block (w := U) (hA2.block g h2 h2')).trans (h3 i h j u hu)⟩
    have Y1b := Y1a.only hA2 (by omega)
    have L9 := L8.only hA2 (by omega)
    refine rng2 (R := fun k => k < v6.heap.size) (bs := w.heap.size + 1) (bl := v3.heap.size) (bi := v6.heap.size) (la := la) (lc := lc) A2 (fun V hV => hsq2.out _ A2 V hA2 hV) (fun k hk => by omega) (by omega) hen'.out Y1b L9 A0 (by omega) (by omega) hPL hl9.out ?_
    intro B hB hI2 hD3
    dsimp only
    refine hK2 _ _ ?_
    have hD4 := (hB.block U.heap.size zD (by omega)).trans hD2
    have Y2b := (Y2a.only hA2 (by omega)).only hB (by omega)
    obtain ⟨_, ql, _⟩ := id (L9.only hB (by omega))
    obtain ⟨_, qi, fi⟩ := id hI2
    obtain ⟨_, qb, fb⟩ := id Y2b
    have hbB : Below w.heap.size w B := ⟨hB.os.trans (hA2.os.trans hbw2.os), hB.tape.trans (hA2.tape.trans hbw2.tape), hB.output.trans (hA2.output.trans hbw2.output), by have := hB.size; have := hbw2.size; omega, fun k hk => (hB.block k (by omega) (by omega)).trans ((hA2.block k (by omega) (by omega)).trans (hbw2.block k hk))⟩
    clear hB hA2 hl9 hsq2 hl8
    gi_wp2
    have zB := (Array.getElem?_eq_some_iff.1 hD3).1
    have hD5 : (B.setCell ⟨w.heap.size + 1 + 1, 0, none⟩ (.bool true)).heap[A2.heap.size]? = some (.deferred (some [])) := (Below.heap_setCell _ _ _ _ (by show A2.heap.size ≠ w.heap.size + 1 + 1; omega)).trans hD3
    have hD6 : (B.setCell ⟨w.heap.size + 1 + 1, 0, none⟩ (.bool true)).heap[U.heap.size]? = some (.deferred (some [])) := (Below.heap_setCell _ _ _ _ (by show U.heap.size ≠ w.heap.size + 1 + 1; omega)).trans hD4
    have hbC : Below w.heap.size w (B.setCell ⟨w.heap.size + 1 + 1, 0, none⟩ (.bool true)) := hbB.setCell (p := ⟨w.heap.size + 1 + 1, 0, none⟩) (by show w.heap.size ≤ w.heap.size + 1 + 1; omega) _
    have hC : Has (B.setCell ⟨w.heap.size + 1 + 1, 0, none⟩ (.bool true)) (w.heap.size + 1 + 1) #[.bool true] := by have := Y2b.set 0 (by simp) (.bool true); simpa using this
    generalize (B.setCell ⟨w.heap.size + 1 + 1, 0, none⟩ (.bool true)) = C at *
    have b1 : Below A2.heap.size C (C.putObj A2.heap.size (.deferred none)) := below_put (.refl _ C) (.deferred none) (Nat.le_refl _)
    have hD7 := (b1.block U.heap.size zD).trans hD6
    have b2 : Below U.heap.size (C.putObj A2.heap.size (.deferred none)) ((C.putObj A2.heap.size (.deferred none)).putObj U.heap.size (.deferred none)) := below_put (.refl _ _) (.deferred none) (Nat.le_refl _)
    have hC2 := (hC.blk b1.size (b1.block _ (by omega))).blk b2.size (b2.block _ (by omega))
    have hb7 := (hbC.trans (b1.mono (by omega))).trans (b2.mono (by omega))
    obtain ⟨_, qz, _⟩ := id hC2
    refine ⟨by simp, .inl ⟨_, _, rfl, run_takeDeferred hD5, ?_⟩⟩
    refine ⟨by simp, .inl ⟨_, _, rfl, run_takeDeferred hD7, ?_⟩⟩
    refine ⟨.bool true, ?_, rfl, hb7⟩
    rw [results_cell1 rfl]
    simp [go_sem, qz]
  case stop =>
    intro A hA hI hD
    by_cases hst : st = (PL.length : Int)
    · subst hst
      dsimp only
      refine hK _ _ ?_
      obtain ⟨_, qs, _⟩ := id (Y1a.only hA (by omega))
      obtain ⟨_, ql, _⟩ := id (L8.only hA (by omega))
      have A0 := hI.set 0 (by simp) (.int .i64 0)
      obtain ⟨_, qi, fi⟩ := id hI
      gi_wp2
      rename_i K2 hK2
      have A0 : Has (A.setCell ⟨v6.heap.size, 0, none⟩ (.int .i64 0)) v6.heap.size #[.int .i64 0] := by have := hI.set 0 (by simp) (.int .i64 0); simpa using this
      have hA2 : Only (fun k => k = v6.heap.size) U (A.setCell ⟨v6.heap.size, 0, none⟩ (.int .i64 0)) := hA.set rfl _
      have hD2 : (A.setCell ⟨v6.heap.size, 0, none⟩ (.int .i64 0)).heap[U.heap.size]? = some (.deferred (some [])) := (Below.heap_setCell _ _ _ _ (by show U.heap.size ≠ v6.heap.size; omega)).trans hD
      have zD : U.heap.size < (A.setCell ⟨v6.heap.size, 0, none⟩ (.int .i64 0)).heap.size := (Array.getElem?_eq_some_iff.1 hD2).1
      clear qs ql qi fi hD hI hA
      generalize (A.setCell ⟨v6.heap.size, 0, none⟩ (.int .i64 0)) = A2 at *
      have hl9 : Hid (PL = [] ∨ ∃ g o, la = some ⟨g, o, none⟩ ∧ g < A2.heap.size ∧ g ≠ v6.heap.size ∧ ∀ (i : Nat) (h : i < PL.length) (j : Nat) (u : Value), (prC PL[i])[j]? = some u → A2.cell? ⟨g, o + i * 2 + j, none⟩ = some u) := by
        rcases hl8.out with h | ⟨g, o, h1, h2, h2', h3⟩
        · exact .inl h
        · exact .inr ⟨g, o, h1, by omega, h2', fun i h j u hu => (World.cell?_of_block (w := U) (hA2.block g h2 h2')).trans (h3 i h j u hu)⟩
      have Y1b := Y1a.only hA2 (by omega)
      have L9 := L8.only hA2 (by omega)
      refine rng2 (R := fun k => k < v6.heap.size) (bs := w.heap.size + 1) (bl := v3.heap.size) (bi := v6.heap.size) (la := la) (lc := lc) A2 (fun V hV => hsq2.out _ A2 V hA2 hV) (fun k hk => by omega) (by omega) hen'.out Y1b L9 A0 (by omega) (by omega) hPL hl9.out ?_
      intro B hB hI2 hD3
      dsimp only
      refine hK2 _ _ ?_
      have hD4 := (hB.block U.heap.size zD (by omega)).trans hD2
      have Y2b := (Y2a.only hA2 (by omega)).only hB (by omega)
      obtain ⟨_, ql, _⟩ := id (L9.only hB (by omega))
      obtain ⟨_, qi, fi⟩ := id hI2
      obtain ⟨_, qb, fb⟩ := id Y2b
      have hbB : Below w.heap.size w B := ⟨hB.os.trans (hA2.os.trans hbw2.os), hB.tape.trans (hA2.tape.trans hbw2.tape), hB.output.trans (hA2.output.trans hbw2.output), by have := hB.size; have := hbw2.size; omega, fun k hk => (hB.block k (by omega) (by omega)).trans ((hA2.block k (by omega) (by omega)).trans (hbw2.block k hk))⟩
      clear hB hA2 hl9 hsq2 hl8
      gi_wp2
      have zB := (Array.getElem?_eq_some_iff.1 hD3).1
      have hD5 : (B.setCell ⟨w.heap.size + 1 + 1, 0, none⟩ (.bool true)).heap[A2.heap.size]? = some (.deferred (some [])) := (Below.heap_setCell _ _ _ _ (by show A2.heap.size ≠ w.heap.size + 1 + 1; omega)).trans hD3
      have hD6 : (B.setCell ⟨w.heap.size + 1 + 1, 0, none⟩ (.bool true)).heap[U.heap.size]? = some (.deferred (some [])) := (Below.heap_setCell _ _ _ _ (by show U.heap.size ≠ w.heap.size + 1 + 1; omega)).trans hD4
      have hbC : Below w.heap.size w (B.setCell ⟨w.heap.size + 1 + 1, 0, none⟩ (.bool true)) := hbB.setCell (p := ⟨w.heap.size + 1 + 1, 0, none⟩) (by show w.heap.size ≤ w.heap.size + 1 + 1; omega) _
      have hC : Has (B.setCell ⟨w.heap.size + 1 + 1, 0, none⟩ (.bool true)) (w.heap.size + 1 + 1) #[.bool true] := by have := Y2b.set 0 (by simp) (.bool true); simpa using this
      generalize (B.setCell ⟨w.heap.size + 1 + 1, 0, none⟩ (.bool true)) = C at *
      have b1 : Below A2.heap.size C (C.putObj A2.heap.size (.deferred none)) := below_put (.refl _ C) (.deferred none) (Nat.le_refl _)
      have hD7 := (b1.block U.heap.size zD).trans hD6
      have b2 : Below U.heap.size (C.putObj A2.heap.size (.deferred none)) ((C.putObj A2.heap.size (.deferred none)).putObj U.heap.size (.deferred none)) := below_put (.refl _ _) (.deferred none) (Nat.le_refl _)
      have hC2 := (hC.blk b1.size (b1.block _ (by omega))).blk b2.size (b2.block _ (by omega))
      have hb7 := (hbC.trans (b1.mono (by omega))).trans (b2.mono (by omega))
      obtain ⟨_, qz, _⟩ := id hC2
      refine ⟨by simp, .inl ⟨_, _, rfl, run_takeDeferred hD5, ?_⟩⟩
      refine ⟨by simp, .inl ⟨_, _, rfl, run_takeDeferred hD7, ?_⟩⟩
      refine ⟨.bool true, ?_, rfl, hb7⟩
      rw [results_cell1 rfl]
      simp [go_sem, qz]
    · have htt : (st == (PL.length : Int)) = false := beq_eq_false_iff_ne.2 hst
      dsimp only
      refine hK _ _ ?_
      obtain ⟨_, qs, _⟩ := id (Y1a.only hA (by omega))
      obtain ⟨_, ql, _⟩ := id (L8.only hA (by omega))
      have A0 := hI.set 0 (by simp) (.int .i64 0)
      obtain ⟨_, qi, fi⟩ := id hI
      gi_wp2
      rename_i K2 hK2
      have A0 : Has (A.setCell ⟨v6.heap.size, 0, none⟩ (.int .i64 0)) v6.heap.size #[.int .i64 0] := by have := hI.set 0 (by simp) (.int .i64 0); simpa using this
      have hA2 : Only (fun k => k = v6.heap.size) U (A.setCell ⟨v6.heap.size, 0, none⟩ (.int .i64 0)) := hA.set rfl _
      have hD2 : (A.setCell ⟨v6.heap.size, 0, none⟩ (.int .i64 0)).heap[U.heap.size]? = some (.deferred (some [])) := (Below.heap_setCell _ _ _ _ (by show U.heap.size ≠ v6.heap.size; omega)).trans hD
      have zD : U.heap.size < (A.setCell ⟨v6.heap.size, 0, none⟩ (.int .i64 0)).heap.size := (Array.getElem?_eq_some_iff.1 hD2).1
      clear qs ql qi fi hD hI hA
      generalize (A.setCell ⟨v6.heap.size, 0, none⟩ (.int .i64 0)) = A2 at *
      have hl9 : Hid (PL = [] ∨ ∃ g o, la = some ⟨g, o, none⟩ ∧ g < A2.heap.size ∧ g ≠ v6.heap.size ∧ ∀ (i : Nat) (h : i < PL.length) (j : Nat) (u : Value), (prC PL[i])[j]? = some u → A2.cell? ⟨g, o + i * 2 + j, none⟩ = some u) := by
        rcases hl8.out with h | ⟨g, o, h1, h2, h2', h3⟩
        · exact .inl h
        · exact .inr ⟨g, o, h1, by omega, h2', fun i h j u hu => (World.cell?_of_block (w := U) (hA2.block g h2 h2')).trans (h3 i h j u hu)⟩
      have Y1b := Y1a.only hA2 (by omega)
      have L9 := L8.only hA2 (by omega)
      refine rng2 (R := fun k => k < v6.heap.size) (bs := w.heap.size + 1) (bl := v3.heap.size) (bi := v6.heap.size) (la := la) (lc := lc) A2 (fun V hV => hsq2.out _ A2 V hA2 hV) (fun k hk => by omega) (by omega) hen'.out Y1b L9 A0 (by omega) (by omega) hPL hl9.out ?_
      intro B hB hI2 hD3
      dsimp only
      refine hK2 _ _ ?_
      have hD4 := (hB.block U.heap.size zD (by omega)).trans hD2
      have Y2b := (Y2a.only hA2 (by omega)).only hB (by omega)
      obtain ⟨_, ql, _⟩ := id (L9.only hB (by omega))
      obtain ⟨_, qi, fi⟩ := id hI2
      obtain ⟨_, qb, fb⟩ := id Y2b
      have hbB : Below w.heap.size w B := ⟨hB.os.trans (hA2.os.trans hbw2.os), hB.tape.trans (hA2.tape.trans hbw2.tape), hB.output.trans (hA2.output.trans hbw2.output), by have := hB.size; have := hbw2.size; omega, fun k hk => (hB.block k (by omega) (by omega)).trans ((hA2.block k (by omega) (by omega)).trans (hbw2.block k hk))⟩
      clear hB hA2 hl9 hsq2 hl8
      gi_wp2
      have zB := (Array.getElem?_eq_some_iff.1 hD3).1
      have hD5 : (B.setCell ⟨w.heap.size + 1 + 1, 0, none⟩ (.bool true)).heap[A2.heap.size]? = some (.deferred (some [])) := (Below.heap_setCell _ _ _ _ (by show A2.heap.size ≠ w.heap.size + 1 + 1; omega)).trans hD3
      have hD6 : (B.setCell ⟨w.heap.size + 1 + 1, 0, none⟩ (.bool true)).heap[U.heap.size]? = some (.deferred (some [])) := (Below.heap_setCell _ _ _ _ (by show U.heap.size ≠ w.heap.size + 1 + 1; omega)).trans hD4
      have hbC : Below w.heap.size w (B.setCell ⟨w.heap.size + 1 + 1, 0, none⟩ (.bool true)) := hbB.setCell (p := ⟨w.heap.size + 1 + 1, 0, none⟩) (by show w.heap.size ≤ w.heap.size + 1 + 1; omega) _
      have hC : Has (B.setCell ⟨w.heap.size + 1 + 1, 0, none⟩ (.bool true)) (w.heap.size + 1 + 1) #[.bool true] := by have := Y2b.set 0 (by simp) (.bool true); simpa using this
      generalize (B.setCell ⟨w.heap.size + 1 + 1, 0, none⟩ (.bool true)) = C at *
      have b1 : Below A2.heap.size C (C.putObj A2.heap.size (.deferred none)) := below_put (.refl _ C) (.deferred none) (Nat.le_refl _)
      have hD7 := (b1.block U.heap.size zD).trans hD6
      have b2 : Below U.heap.size (C.putObj A2.heap.size (.deferred none)) ((C.putObj A2.heap.size (.deferred none)).putObj U.heap.size (.deferred none)) := below_put (.refl _ _) (.deferred none) (Nat.le_refl _)
      have hC2 := (hC.blk b1.size (b1.block _ (by omega))).blk b2.size (b2.block _ (by omega))
      have hb7 := (hbC.trans (b1.mono (by omega))).trans (b2.mono (by omega))
      obtain ⟨_, qz, _⟩ := id hC2
      refine ⟨by simp, .inl ⟨_, _, rfl, run_takeDeferred hD5, ?_⟩⟩
      refine ⟨by simp, .inl ⟨_, _, rfl, run_takeDeferred hD7, ?_⟩⟩
      refine ⟨.bool true, ?_, rfl, hb7⟩
      rw [results_cell1 rfl]
      simp [go_sem, qz]
end Go.Proofs.YtddphepgcihdbaaGreat
