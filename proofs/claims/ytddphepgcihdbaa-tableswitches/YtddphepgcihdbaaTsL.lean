import Derived.Test.YtddphepgcihdbaaTsR
import Derived.Test.YtddphepgcihdbaaTsK
import Derived.Test.YtddphepgcihdbaaTsM
import Derived.Test.YtddphepgcihdbaaTfJ
import Derived.Test.YtddphepgcihdbaaTdI
namespace Go.Proofs.Ytddphepgcihdbaa
open Go.RowKit Go.Shelf
set_option linter.unusedVariables false
set_option linter.unusedSimpArgs false

attribute [local go_sem] Oper.semAt_some
theorem at_ok (m : Int) (h0 : 0 ≤ m) (h1 : m ≤ 210379679) {t : Tt} (he : t.err = 0) (aD aS aX aH : Option Addr) (cD cS cX cH : Nat) (W : World) (hR : TR W t (.slice aD t.D.length cD) (.slice aS t.S.length cS) (.slice aX t.X.length cX) (.slice aH t.H.length cH)) : Calls Try.prog 7 #[.agg #[.string t.nm, .slice aD t.D.length cD, .int .i64 t.w0, .int .i64 t.w1, .int .i64 t.w2, .int .i64 t.w3, .int .i64 t.w4, .int .i64 t.w5, .int .i64 t.w6, .slice aS t.S.length cS, .slice aX t.X.length cX, .slice aH t.H.length cH], .int .i64 m] W fun e w' => e = .returned (.tuple #[.int .i64 (slF t m), .int .i64 0]) ∧ Below W.heap.size W w' := by
  have h := at_any m t aD aS aX aH cD cS cX cH W hR
  unfold atA at h
  rw [er_ok he h0 h1, if_pos rfl] at h
  exact h
theorem next_ok (m : Int) (h0 : 0 ≤ m) (h1 : m ≤ 210379679) {t : Tt} (he : t.err = 0) (aD aS aX aH : Option Addr) (cD cS cX cH : Nat) (W : World) (hR : TR W t (.slice aD t.D.length cD) (.slice aS t.S.length cS) (.slice aX t.X.length cX) (.slice aH t.H.length cH)) : Calls Try.prog 8 #[.agg #[.string t.nm, .slice aD t.D.length cD, .int .i64 t.w0, .int .i64 t.w1, .int .i64 t.w2, .int .i64 t.w3, .int .i64 t.w4, .int .i64 t.w5, .int .i64 t.w6, .slice aS t.S.length cS, .slice aX t.X.length cX, .slice aH t.H.length cH], .int .i64 m] W fun e w' => e = .returned (.tuple #[.int .i64 (nxM t m), .int .i64 (nxS t m), .int .i64 0]) ∧ Below W.heap.size W w' := by
  have h := next_any m t aD aS aX aH cD cS cX cH W hR
  rw [er_ok he h0 h1] at h
  exact h
theorem eql_in (d F : Nat) (lb : Array Value) (w : World) : (Op.equalIn (d + 1) 34 (.func (.func F) #[] lb) .nilFunc).run Try.prog w = .ok false w := by
  simp [Op.equalIn, run_underlying Try.underlying34]
theorem eql_fn (F : Nat) (lb : Array Value) (w : World) : (binOp .eql 34 (.func (.func F) #[] lb) .nilFunc).run Try.prog w = .ok (.bool false) w := by
  simp only [binOp]
  simp [Op.equal, Op.maxDepth, eql_in 9999 F lb w]
theorem own_zero (w : World) {g : Nat} (hg : g = w.heap.size) : (w.alloc (.cells #[] 3)).ownsRow 0 3 1 (.slice (some ⟨g, 0, none⟩) 0 0) 0 [] := by
  subst hg
  exact ⟨rfl, .inr ⟨_, 0, #[], rfl, Nat.zero_le _, World.alloc_heap_new w _, Nat.le_refl _, Nat.zero_le _, rfl, rfl⟩⟩
set_option maxRecDepth 100000 in
set_option maxHeartbeats 20000000 in
theorem switches_law (n : Nat) (L : List Int) (la : Option Addr) (lc : Nat) (fr lg : Int) (hfr : -9223372036854775808 ≤ fr ∧ fr ≤ 9223372036854775807) (hlg : -9223372036854775808 ≤ lg ∧ lg ≤ 9223372036854775807) (K : List Int) (ka : Option Addr) (kc : Nat) (w : World) (hK : ChP w K ka) (mk : Calls Try.prog 4 #[.slice la L.length lc] w fun e w' => MkP w e w') : CallsIn Fence.wide n Try.prog 3 #[.slice la L.length lc, .int .i64 fr, .int .i64 lg, .slice ka K.length kc] w fun e w' => e = .returned (.bool true) ∧ Below w.heap.size w w' := by
  refine callsIn_of_wp_marks Try.func3 rfl trivial ?_ rfl
  simp only [Try.ntmps3, List.size_toArray, List.length_cons, List.length_nil, Nat.reduceAdd, Nat.reduceSub, Array.replicate_succ, Array.replicate_zero, List.push_toArray, List.append_toArray, List.nil_append, List.cons_append]
  have hK' : Hid _ := hK
  have c5a := fun W => callsIn_wide (n := n - 1) |>.2 (below_any fr 210329679 W hfr.1 hfr.2 (by decide) (by decide))
  have c5b := fun W => callsIn_wide (n := n - 1) |>.2 (below_any lg 44640 W hlg.1 hlg.2 (by decide) (by decide))
  clear hK
  gi_wp2_with (refine ⟨trivial, fun h => (by cases h), ?_⟩; first
    | (gi_at_call 4; refine (callsIn_wide (n := n - 1) |>.2 mk).mono ?_; rintro e w1 hmk; obtain ⟨t, aD, aS, aX, aH, cD, cS, cX, cH, ms, mb, rfl, he, hT, hb1⟩ := made_t hmk; clear hmk)
    | (gi_at_call 5; refine (c5a _).mono ?_; rintro e w2 ⟨⟨f, rfl, f0, f1⟩, rfl⟩; clear c5a)
    | (gi_at_call 5; refine (c5b _).mono ?_; rintro e w3 ⟨⟨g, rfl, g0, g1⟩, rfl⟩; clear c5b))
  have HZ : (((((w1.alloc (.cells #[.string t.nm, .slice aD t.D.length cD, .int .i64 t.w0, .int .i64 t.w1, .int .i64 t.w2, .int .i64 t.w3, .int .i64 t.w4, .int .i64 t.w5, .int .i64 t.w6, .slice aS t.S.length cS, .slice aX t.X.length cX, .slice aH t.H.length cH] 29)).alloc (.cells #[] 3)).alloc (.cells #[.slice (some ⟨w1.heap.size + 1, 0, none⟩) 0 0] 22)).alloc (.cells #[] 3)).alloc (.cells #[.slice (some ⟨w1.heap.size + 1 + 1 + 1, 0, none⟩) 0 0] 22)).heap.size = w1.heap.size + 5 := by simp
  have H0 : Has (((((w1.alloc (.cells #[.string t.nm, .slice aD t.D.length cD, .int .i64 t.w0, .int .i64 t.w1, .int .i64 t.w2, .int .i64 t.w3, .int .i64 t.w4, .int .i64 t.w5, .int .i64 t.w6, .slice aS t.S.length cS, .slice aX t.X.length cX, .slice aH t.H.length cH] 29)).alloc (.cells #[] 3)).alloc (.cells #[.slice (some ⟨w1.heap.size + 1, 0, none⟩) 0 0] 22)).alloc (.cells #[] 3)).alloc (.cells #[.slice (some ⟨w1.heap.size + 1 + 1 + 1, 0, none⟩) 0 0] 22)) w1.heap.size #[.string t.nm, .slice aD t.D.length cD, .int .i64 t.w0, .int .i64 t.w1, .int .i64 t.w2, .int .i64 t.w3, .int .i64 t.w4, .int .i64 t.w5, .int .i64 t.w6, .slice aS t.S.length cS, .slice aX t.X.length cX, .slice aH t.H.length cH] := ((((Has.new _ _ _ rfl).alloc _).alloc _).alloc _).alloc _
  have H1 : Has (((((w1.alloc (.cells #[.string t.nm, .slice aD t.D.length cD, .int .i64 t.w0, .int .i64 t.w1, .int .i64 t.w2, .int .i64 t.w3, .int .i64 t.w4, .int .i64 t.w5, .int .i64 t.w6, .slice aS t.S.length cS, .slice aX t.X.length cX, .slice aH t.H.length cH] 29)).alloc (.cells #[] 3)).alloc (.cells #[.slice (some ⟨w1.heap.size + 1, 0, none⟩) 0 0] 22)).alloc (.cells #[] 3)).alloc (.cells #[.slice (some ⟨w1.heap.size + 1 + 1 + 1, 0, none⟩) 0 0] 22)) (w1.heap.size + 1 + 1) #[.slice (some ⟨w1.heap.size + 1, 0, none⟩) 0 0] := ((Has.new _ _ _ (by simp)).alloc _).alloc _
  have H2 : Has (((((w1.alloc (.cells #[.string t.nm, .slice aD t.D.length cD, .int .i64 t.w0, .int .i64 t.w1, .int .i64 t.w2, .int .i64 t.w3, .int .i64 t.w4, .int .i64 t.w5, .int .i64 t.w6, .slice aS t.S.length cS, .slice aX t.X.length cX, .slice aH t.H.length cH] 29)).alloc (.cells #[] 3)).alloc (.cells #[.slice (some ⟨w1.heap.size + 1, 0, none⟩) 0 0] 22)).alloc (.cells #[] 3)).alloc (.cells #[.slice (some ⟨w1.heap.size + 1 + 1 + 1, 0, none⟩) 0 0] 22)) (w1.heap.size + 1 + 1 + 1 + 1) #[.slice (some ⟨w1.heap.size + 1 + 1 + 1, 0, none⟩) 0 0] := Has.new _ _ _ (by simp)
  have HB : Below w1.heap.size w1 (((((w1.alloc (.cells #[.string t.nm, .slice aD t.D.length cD, .int .i64 t.w0, .int .i64 t.w1, .int .i64 t.w2, .int .i64 t.w3, .int .i64 t.w4, .int .i64 t.w5, .int .i64 t.w6, .slice aS t.S.length cS, .slice aX t.X.length cX, .slice aH t.H.length cH] 29)).alloc (.cells #[] 3)).alloc (.cells #[.slice (some ⟨w1.heap.size + 1, 0, none⟩) 0 0] 22)).alloc (.cells #[] 3)).alloc (.cells #[.slice (some ⟨w1.heap.size + 1 + 1 + 1, 0, none⟩) 0 0] 22)) := belT (belT (belT (belT bel1 bel1) bel1) bel1) bel1
  have R1 : (((((w1.alloc (.cells #[.string t.nm, .slice aD t.D.length cD, .int .i64 t.w0, .int .i64 t.w1, .int .i64 t.w2, .int .i64 t.w3, .int .i64 t.w4, .int .i64 t.w5, .int .i64 t.w6, .slice aS t.S.length cS, .slice aX t.X.length cX, .slice aH t.H.length cH] 29)).alloc (.cells #[] 3)).alloc (.cells #[.slice (some ⟨w1.heap.size + 1, 0, none⟩) 0 0] 22)).alloc (.cells #[] 3)).alloc (.cells #[.slice (some ⟨w1.heap.size + 1 + 1 + 1, 0, none⟩) 0 0] 22)).ownsRow 0 3 1 (.slice (some ⟨w1.heap.size + 1, 0, none⟩) 0 0) 0 [] := own_bel (own_bel (own_bel (own_zero (w1.alloc _) (by simp)) bel1) bel1) bel1
  have R2 : (((((w1.alloc (.cells #[.string t.nm, .slice aD t.D.length cD, .int .i64 t.w0, .int .i64 t.w1, .int .i64 t.w2, .int .i64 t.w3, .int .i64 t.w4, .int .i64 t.w5, .int .i64 t.w6, .slice aS t.S.length cS, .slice aX t.X.length cX, .slice aH t.H.length cH] 29)).alloc (.cells #[] 3)).alloc (.cells #[.slice (some ⟨w1.heap.size + 1, 0, none⟩) 0 0] 22)).alloc (.cells #[] 3)).alloc (.cells #[.slice (some ⟨w1.heap.size + 1 + 1 + 1, 0, none⟩) 0 0] 22)).ownsRow 0 3 1 (.slice (some ⟨w1.heap.size + 1 + 1 + 1, 0, none⟩) 0 0) 0 [] := own_bel (own_zero (((w1.alloc _).alloc _).alloc _) (by simp)) bel1
  have hTY := hT.below HB
  generalize (((((w1.alloc (.cells #[.string t.nm, .slice aD t.D.length cD, .int .i64 t.w0, .int .i64 t.w1, .int .i64 t.w2, .int .i64 t.w3, .int .i64 t.w4, .int .i64 t.w5, .int .i64 t.w6, .slice aS t.S.length cS, .slice aX t.X.length cX, .slice aH t.H.length cH] 29)).alloc (.cells #[] 3)).alloc (.cells #[.slice (some ⟨w1.heap.size + 1, 0, none⟩) 0 0] 22)).alloc (.cells #[] 3)).alloc (.cells #[.slice (some ⟨w1.heap.size + 1 + 1 + 1, 0, none⟩) 0 0] 22)) = Y at *
  refine ⟨trivial, fun h => (by cases h), ?_⟩
  gi_at_call 6
  refine (callsIn_wide (n := n - 1) |>.2 (switches_v f (f + 1 + g) (by omega) (by omega) t aD aS aX aH cD cS cX cH Y hTY)).mono ?_
  rintro e w4 ⟨F, lb, rfl, hen, hb4, hsq⟩
  have hPw := pw_prL (t := t) (b := f) (a := f + 1 + g) he (by omega) (by omega) (by omega) (by omega)
  have hPl := prL_len t f (f + 1 + g)
  have hz4 := hb4.size
  have hsq' : Hid (∀ n V, Below w4.heap.size w4 V → SeqU n F lb (fun p : Int × Int => #[.int .i64 p.1, .int .i64 p.2]) (prL t f (f + 1 + g)) (fun k => Y.heap.size ≤ k ∧ k < w4.heap.size) V) := hsq w4 (Only.refl _ _)
  have hPw' : Hid _ := hPw
  clear hsq hPw
  generalize prL t f (f + 1 + g) = PL at *
  have heq := eql_fn F lb
  gi_wp2_with fail
  rename_i K2 hK2
  have h0A : At2 w4 (w1.heap.size + 1 + 1) (w1.heap.size + 1 + 1 + 1 + 1) (w1.heap.size + 1) (w1.heap.size + 1 + 1 + 1) (.slice (some ⟨w1.heap.size + 1, 0, none⟩) 0 0) (.slice (some ⟨w1.heap.size + 1 + 1 + 1, 0, none⟩) 0 0) [] [] w4 :=
    ⟨H1.below hb4, H2.below hb4, own_bel R1 hb4, own_bel R2 hb4, (fun k e1 e2 => by cases e1; injection e2 with e2; have e3 : w1.heap.size + 1 + 1 + 1 = w1.heap.size + 1 := e2; omega), (fun k e1 => by cases e1; exact .inl rfl), (fun k e1 => by cases e1; exact .inl rfl), Only.refl _ _, by omega⟩
  refine rngS (b1 := w1.heap.size + 1 + 1) (b2 := w1.heap.size + 1 + 1 + 1 + 1) (q1 := w1.heap.size + 1) (q2 := w1.heap.size + 1 + 1 + 1) (R := fun k => Y.heap.size ≤ k ∧ k < w4.heap.size) w4 (fun V hV => hsq'.out _ V hV) (fun k hk => hk.2) (fun h => by omega) (fun h => by omega) (fun k hk hu => by rcases hu with hu | hu <;> (cases hu; have h1 := hk.1; simp only at h1; omega)) hen h0A hPl ?_
  intro v1 v2 A hA hD
  dsimp only
  refine hK2 _ _ (wpIn_wide.2 ?_)
  have zA := hA.ho.size
  have hD' : Hid (A.heap[w4.heap.size]? = some (.deferred (some [])) ∧ w4.heap.size < A.heap.size) := ⟨hD, (Array.getElem?_eq_some_iff.1 hD).1⟩
  have HA0 : Has A w1.heap.size #[.string t.nm, .slice aD t.D.length cD, .int .i64 t.w0, .int .i64 t.w1, .int .i64 t.w2, .int .i64 t.w3, .int .i64 t.w4, .int .i64 t.w5, .int .i64 t.w6, .slice aS t.S.length cS, .slice aX t.X.length cX, .slice aH t.H.length cH] := (H0.below hb4).only hA.ho (by omega)
  have hBA : Below w1.heap.size w1 A := ⟨hA.ho.os.trans (hb4.os.trans HB.os), hA.ho.tape.trans (hb4.tape.trans HB.tape), hA.ho.output.trans (hb4.output.trans HB.output), by have := HB.size; omega, fun k hk => (hA.ho.block k (by omega) (by omega)).trans ((hb4.block k (by omega)).trans (HB.block k hk))⟩
  obtain ⟨g1, cap1, rfl, hc1, _, hg1⟩ := own_block hA.r1 (by rw [List.length_map]; exact hPw'.out.ne)
  obtain ⟨g2, cap2, rfl, hc2, _, hg2⟩ := own_block hA.r2 (by rw [List.length_map]; exact hPw'.out.ne)
  have hP1 : Hid (∀ i (h : i < PL.length), A.cell? ⟨g1, i, none⟩ = some (.int .i64 PL[i].1)) := fun i h => own_reads hA.r1 rfl i _ (by have := cellsF_get int_len (PL.map (·.1)) i 0 (by simpa using h) (by decide); rw [Nat.add_zero, Nat.mul_one] at this; rw [this]; simp [Int.cs])
  have hP2 : Hid (∀ i (h : i < PL.length), A.cell? ⟨g2, i, none⟩ = some (.int .i64 PL[i].2)) := fun i h => own_reads hA.r2 rfl i _ (by have := cellsF_get int_len (PL.map (·.2)) i 0 (by simpa using h) (by decide); rw [Nat.add_zero, Nat.mul_one] at this; rw [this]; simp [Int.cs])
  have hA1 := hA.h1
  have hA2 := hA.h2
  rw [List.length_map] at hA1 hA2
  have hbA : Hid (Below w.heap.size w A) := hb1.trans (hBA.mono hb1.size)
  have hTA : Hid (∀ W, Below A.heap.size A W → TR W t (.slice aD t.D.length cD) (.slice aS t.S.length cS) (.slice aX t.X.length cX) (.slice aH t.H.length cH)) := fun W hW => hT.below (hBA.trans (hW.mono hBA.size))
  have hKA : Hid (K.length ≤ 17592186044416 ∧ (∀ i (h : i < K.length), -9223372036854775808 ≤ K[i] ∧ K[i] ≤ 9223372036854775807) ∧ (K = [] ∨ ∃ g o, ka = some ⟨g, o, none⟩ ∧ g < A.heap.size ∧ ∀ i (h : i < K.length), A.cell? ⟨g, o + i, none⟩ = some (.int .i64 K[i]))) := by
    obtain ⟨k1, k2, k3⟩ := hK'.out
    refine ⟨k1, k2, k3.imp id ?_⟩
    rintro ⟨g, o, e1, e2, e3⟩
    exact ⟨g, o, e1, Nat.lt_of_lt_of_le e2 hbA.out.size, fun i h => (hbA.out.cell (p := ⟨g, _, none⟩) e2).trans (e3 i h)⟩
  have hne0 := hPw'.out.ne
  have hfirst := hPw'.out.first hne0
  have p00 := hP1.out 0 hne0
  rw [hfirst] at p00
  have hz5 : Hid (w1.heap.size + 5 ≤ A.heap.size) := by show _ ≤ _; omega
  have hww : w.heap.size ≤ w4.heap.size := by have := hb1.size; omega
  clear hA hD h0A H0 H1 H2 R1 R2 HB hTY hT hsq' hen heq hb4 hb1 hBA hK' hK2 K2 mk
  generalize w1.heap.size = q at *
  obtain ⟨_, t0, _⟩ := id HA0
  obtain ⟨_, t1, _⟩ := id hA1
  obtain ⟨_, t2, _⟩ := id hA2
  have hn0 : ¬ (PL.length : Int) = 0 := by omega
  have hnb : ((PL.length : Int) == 0) = false := beq_eq_false_iff_ne.2 hn0
  have c7 : Hid (∀ m W, 0 ≤ m → m ≤ 210379679 → Below A.heap.size A W → Calls Try.prog 7 #[.agg #[.string t.nm, .slice aD t.D.length cD, .int .i64 t.w0, .int .i64 t.w1, .int .i64 t.w2, .int .i64 t.w3, .int .i64 t.w4, .int .i64 t.w5, .int .i64 t.w6, .slice aS t.S.length cS, .slice aX t.X.length cX, .slice aH t.H.length cH], .int .i64 m] W fun e w' => e = .returned (.tuple #[.int .i64 (slF t m), .int .i64 0]) ∧ Below W.heap.size W w') := fun m W h0 h1 hW => at_ok m h0 h1 he aD aS aX aH cD cS cX cH W (hTA.out W hW)
  have c8 : Hid (∀ m W, 0 ≤ m → m ≤ 210379679 → Below A.heap.size A W → Calls Try.prog 8 #[.agg #[.string t.nm, .slice aD t.D.length cD, .int .i64 t.w0, .int .i64 t.w1, .int .i64 t.w2, .int .i64 t.w3, .int .i64 t.w4, .int .i64 t.w5, .int .i64 t.w6, .slice aS t.S.length cS, .slice aX t.X.length cX, .slice aH t.H.length cH], .int .i64 m] W fun e w' => e = .returned (.tuple #[.int .i64 (nxM t m), .int .i64 (nxS t m), .int .i64 0]) ∧ Below W.heap.size W w') := fun m W h0 h1 hW => next_ok m h0 h1 he aD aS aX aH cD cS cX cH W (hTA.out W hW)
  go_wp2_with fail
  go_loopg [18] PL.length (fun gk s18 wr => ∃ i : Nat, i + gk = PL.length ∧ s18 = .int .i64 (i : Int) ∧ Hid (Below A.heap.size A wr))
  case atStart => exact ⟨0, by omega, rfl, Below.refl _ _⟩
  case round =>
    obtain ⟨i, hi, rfl, hbw⟩ := hrel
    obtain ⟨_, u0, _⟩ := id (HA0.below hbw.out)
    obtain ⟨_, u1, _⟩ := id (hA1.below hbw.out)
    clear t0 t1 t2 p00
    by_cases hlt : i < PL.length
    · cases i with
      | zero =>
        have t3 : (0 : Int) < (PL.length : Int) := by omega
        have hlo := hPw'.out.lo 0 hlt
        obtain ⟨hhi, hsl⟩ := hPw'.out.hi 0 hlt
        have p1 := (hbw.out.cell (p := ⟨g1, 0, none⟩) hg1).trans (hP1.out 0 hlt)
        have hG2 : Hid (∀ W, Below A.heap.size A W → W.cell? ⟨g1, 0, none⟩ = some (.int .i64 PL[0].1) ∧ W.cell? ⟨g2, 0, none⟩ = some (.int .i64 PL[0].2)) := fun W hW => ⟨(hW.cell (p := ⟨g1, 0, none⟩) hg1).trans (hP1.out 0 hlt), (hW.cell (p := ⟨g2, 0, none⟩) hg2).trans (hP2.out 0 hlt)⟩
        have hsl' : Hid (slF t PL[0].1 = PL[0].2) := hsl.symm
        clear hsl hfirst
        generalize PL[0].1 = y1 at *
        generalize PL[0].2 = z1 at *
        have k7 := c7.out y1
        rw [hsl'.out] at k7
        have c7s : Hid _ := k7
        clear k7
        go_wp2_with fail
        refine wp_region_noPanic ?_
        refine wp_region_held_drew (S := fun w' => (∀ j, w'.cell? ⟨q, j, none⟩ = (#[.string t.nm, .slice aD t.D.length cD, .int .i64 t.w0, .int .i64 t.w1, .int .i64 t.w2, .int .i64 t.w3, .int .i64 t.w4, .int .i64 t.w5, .int .i64 t.w6, .slice aS t.S.length cS, .slice aX t.X.length cX, .slice aH t.H.length cH] : Array Value)[j]?) ∧ w'.cell? ⟨q + 1 + 1, 0, none⟩ = some (.slice (some ⟨g1, 0, none⟩) PL.length cap1) ∧ w'.cell? ⟨g1, 0, none⟩ = some (.int .i64 y1) ∧ Hid (Below A.heap.size A w')) (by kernel_rfl) ?_ (fun hHeld => ?_)
        · (try dsimp only)
          exact ⟨u0, u1 0, p1, hbw.out.drew⟩
        refine wpAnyH_take (i := 0) (oi := { dst := some 78, op := Op.load 29 (Operand.tmp 9), type := 29, pos := "outright.go:301", after := #[], guard := none }) (v := ?_) rfl (by kernel_rfl) (by kernel_rfl) (by kernel_rfl) (fun _ _ _ h => h) (Or.inl ⟨by rfl, ?_⟩) (by assumption) ?_
        rotate_left
        · intro wz hSz; (try dsimp only at hSz); go_simp; all_goals (with_reducible rfl)
        (try simp only [Act.put, List.setIfInBounds_toArray, List.set_cons_zero, List.set_cons_succ])
        refine wpAnyH_take (i := 1) (oi := { dst := some 79, op := Op.load 22 (Operand.tmp 13), type := 22, pos := "outright.go:301", after := #[], guard := none }) (v := ?_) rfl (by kernel_rfl) (by kernel_rfl) (by kernel_rfl) (fun _ _ _ h => h) (Or.inl ⟨by rfl, ?_⟩) (by assumption) ?_
        rotate_left
        · intro wz hSz; (try dsimp only at hSz); go_simp; all_goals (with_reducible rfl)
        (try simp only [Act.put, List.setIfInBounds_toArray, List.set_cons_zero, List.set_cons_succ])
        refine wpAnyH_take (i := 2) (oi := { dst := some 80, op := Op.move (Operand.tmp 18), type := 3, pos := "outright.go:301", after := #[], guard := none }) (v := ?_) rfl (by kernel_rfl) (by kernel_rfl) (by kernel_rfl) (fun _ _ _ h => h) (Or.inl ⟨by rfl, ?_⟩) (by assumption) ?_
        rotate_left
        · intro wz hSz; (try dsimp only at hSz); go_simp; all_goals (with_reducible rfl)
        (try simp only [Act.put, List.setIfInBounds_toArray, List.set_cons_zero, List.set_cons_succ])
        refine wpAnyH_take (i := 3) (oi := { dst := some 81, op := Op.indexAddr 22 (Operand.tmp 79) (Operand.tmp 80), type := 0, pos := "outright.go:301", after := #[{ on := 1, ground := Ground.data }, { on := 2, ground := Ground.data }], guard := none }) (v := ?_) rfl (by kernel_rfl) (by kernel_rfl) (by kernel_rfl) (fun _ _ _ h => h) (Or.inl ⟨by rfl, ?_⟩) (by assumption) ?_
        rotate_left
        · intro wz hSz; (try dsimp only at hSz); go_simp; all_goals (with_reducible rfl)
        (try simp only [Act.put, List.setIfInBounds_toArray, List.set_cons_zero, List.set_cons_succ])
        refine wpAnyH_take (i := 4) (oi := { dst := some 82, op := Op.load 3 (Operand.tmp 81), type := 3, pos := "outright.go:301", after := #[{ on := 3, ground := Ground.data }], guard := none }) (v := ?_) rfl (by kernel_rfl) (by kernel_rfl) (by kernel_rfl) (fun _ _ _ h => h) (Or.inl ⟨by rfl, ?_⟩) (by assumption) ?_
        rotate_left
        · intro wz hSz; (try dsimp only at hSz); go_simp; all_goals (with_reducible rfl)
        (try simp only [Act.put, List.setIfInBounds_toArray, List.set_cons_zero, List.set_cons_succ])
        refine wpAnyH_ready (rs := [5]) (by kernel_rfl) (by simp) ?_
        refine AllReadyH.cons (o := { dst := some 83, op := Op.call { callee := Callee.value (Operand.func 7), args := #[Operand.tmp 78, Operand.tmp 82], argTypes := #[29, 3] }, type := 37, pos := "outright.go:301", after := #[{ on := 0, ground := Ground.data }, { on := 4, ground := Ground.data }], guard := none }) rfl (fun K hK => ?_) AllReadyH.nil
        go_simp
        go_at_call 7; (with_reducible refine (c7s.out _ (by omega) (by omega) hHeld.2.2.2.out).mono ?_); rintro e w5 ⟨rfl, hb5⟩
        go_wp2_with fail
        refine hK.out _ _ ?_ (fun hHeld => ?_)
        · (try dsimp only)
          exact ⟨fun j => (hb5.cell (p := ⟨q, j, none⟩) (cell_ltF ((hHeld.1 0).trans rfl))).trans (hHeld.1 j), (hb5.cell (p := ⟨q + 1 + 1, 0, none⟩) (cell_ltF hHeld.2.1)).trans hHeld.2.1, (hb5.cell (p := ⟨g1, 0, none⟩) (cell_ltF hHeld.2.2.1)).trans hHeld.2.2.1, belT hHeld.2.2.2.out hb5⟩
        clear hK K
        (try simp only [Act.put, List.setIfInBounds_toArray, List.set_cons_zero, List.set_cons_succ])
        refine wpAnyH_take (i := 6) (oi := { dst := some 77, op := Op.move (Operand.tmp 83), type := 37, pos := "outright.go:301", after := #[{ on := 5, ground := Ground.data }], guard := none }) (v := ?_) rfl (by kernel_rfl) (by kernel_rfl) (by kernel_rfl) (fun _ _ _ h => h) (Or.inl ⟨by rfl, ?_⟩) (by assumption) ?_
        rotate_left
        · intro wz hSz; (try dsimp only at hSz); go_simp; all_goals (with_reducible rfl)
        (try simp only [Act.put, List.setIfInBounds_toArray, List.set_cons_zero, List.set_cons_succ])
        refine wpAnyH_take (i := 7) (oi := { dst := some 84, op := Op.extract (Operand.tmp 77) 0, type := 3, pos := "outright.go:301", after := #[{ on := 6, ground := Ground.data }], guard := none }) (v := ?_) rfl (by kernel_rfl) (by kernel_rfl) (by kernel_rfl) (fun _ _ _ h => h) (Or.inl ⟨by rfl, ?_⟩) (by assumption) ?_
        rotate_left
        · intro wz hSz; (try dsimp only at hSz); go_simp; all_goals (with_reducible rfl)
        (try simp only [Act.put, List.setIfInBounds_toArray, List.set_cons_zero, List.set_cons_succ])
        refine wpAnyH_take (i := 8) (oi := { dst := some 85, op := Op.extract (Operand.tmp 77) 1, type := 36, pos := "outright.go:301", after := #[{ on := 6, ground := Ground.data }, { on := 9, ground := Ground.gcOnly Departure.lateStores }], guard := none }) (v := ?_) rfl (by kernel_rfl) (by kernel_rfl) (by kernel_rfl) (fun _ _ _ h => h) (Or.inl ⟨by rfl, ?_⟩) (by assumption) ?_
        rotate_left
        · intro wz hSz; (try dsimp only at hSz); go_simp; all_goals (with_reducible rfl)
        (try simp only [Act.put, List.setIfInBounds_toArray, List.set_cons_zero, List.set_cons_succ])
        refine wpAnyH_take (i := 9) (oi := { dst := some 19, op := Op.assign (Operand.tmp 84), type := 3, pos := "outright.go:301", after := #[{ on := 7, ground := Ground.data }, { on := 5, ground := Ground.chain }, { on := 0, ground := Ground.phase }, { on := 1, ground := Ground.phase }, { on := 2, ground := Ground.phase }, { on := 3, ground := Ground.phase }, { on := 4, ground := Ground.phase }, { on := 5, ground := Ground.phase }, { on := 6, ground := Ground.phase }, { on := 7, ground := Ground.phase }, { on := 8, ground := Ground.textOnly Departure.lateStores }], guard := none }) (v := ?_) rfl (by kernel_rfl) (by kernel_rfl) (by kernel_rfl) (fun _ _ _ h => h) (Or.inl ⟨by rfl, ?_⟩) (by assumption) ?_
        rotate_left
        · intro wz hSz; (try dsimp only at hSz); go_simp; all_goals (with_reducible rfl)
        (try simp only [Act.put, List.setIfInBounds_toArray, List.set_cons_zero, List.set_cons_succ])
        refine wpAnyH_take (i := 10) (oi := { dst := some 20, op := Op.assign (Operand.tmp 85), type := 36, pos := "outright.go:301", after := #[{ on := 8, ground := Ground.data }, { on := 9, ground := Ground.chain }, { on := 0, ground := Ground.phase }, { on := 1, ground := Ground.phase }, { on := 2, ground := Ground.phase }, { on := 3, ground := Ground.phase }, { on := 4, ground := Ground.phase }, { on := 5, ground := Ground.phase }, { on := 6, ground := Ground.phase }, { on := 7, ground := Ground.phase }, { on := 8, ground := Ground.phase }, { on := 9, ground := Ground.phase }], guard := none }) (v := ?_) rfl (by kernel_rfl) (by kernel_rfl) (by kernel_rfl) (fun _ _ _ h => h) (Or.inl ⟨by rfl, ?_⟩) (by assumption) ?_
        rotate_left
        · intro wz hSz; (try dsimp only at hSz); go_simp; all_goals (with_reducible rfl)
        (try simp only [Act.put, List.setIfInBounds_toArray, List.set_cons_zero, List.set_cons_succ])
        refine wpAnyH_done (by kernel_rfl) ?_ _
        refine NoPanic.normal ?_
        have hbx : Hid (Below A.heap.size A w5) := hHeld.2.2.2.out
        obtain ⟨_, u3, _⟩ := id (hA1.below hbx.out)
        obtain ⟨_, u4, _⟩ := id (hA2.below hbx.out)
        obtain ⟨r1, r2⟩ := hG2.out _ hbx.out
        clear hHeld u0 u1 p1
        go_wp2_with fail
        refine wp_region_noPanic ?_
        refine wp_region_held_drew (S := fun w' => w'.cell? ⟨q + 1 + 1, 0, none⟩ = some (.slice (some ⟨g1, 0, none⟩) PL.length cap1) ∧ w'.cell? ⟨q + 1 + 1 + 1 + 1, 0, none⟩ = some (.slice (some ⟨g2, 0, none⟩) PL.length cap2) ∧ w'.cell? ⟨g1, 0, none⟩ = some (.int .i64 y1) ∧ w'.cell? ⟨g2, 0, none⟩ = some (.int .i64 z1)) (by kernel_rfl) ?_ (fun hHeld => ?_)
        · (try dsimp only)
          exact ⟨u3 0, u4 0, r1, r2⟩
        refine wpAnyH_take (i := 0) (oi := { dst := some 86, op := Op.move (Operand.tmp 20), type := 36, pos := "outright.go:302", after := #[], guard := none }) (v := ?_) rfl (by kernel_rfl) (by kernel_rfl) (by kernel_rfl) (fun _ _ _ h => h) (Or.inl ⟨by rfl, ?_⟩) (by assumption) ?_
        rotate_left
        · intro wz hSz; (try dsimp only at hSz); go_simp; all_goals (with_reducible rfl)
        (try simp only [Act.put, List.setIfInBounds_toArray, List.set_cons_zero, List.set_cons_succ])
        refine wpAnyH_take (i := 1) (oi := { dst := some 87, op := Op.binOp BinOp.neq 36 (Operand.tmp 86) (Operand.const (Value.int IntKind.i64 0)) 36, type := 4, pos := "outright.go:302", after := #[{ on := 0, ground := Ground.data }], guard := none }) (v := ?_) rfl (by kernel_rfl) (by kernel_rfl) (by kernel_rfl) (fun _ _ _ h => h) (Or.inl ⟨by rfl, ?_⟩) (by assumption) ?_
        rotate_left
        · intro wz hSz; (try dsimp only at hSz); go_simp; all_goals (with_reducible rfl)
        (try simp only [Act.put, List.setIfInBounds_toArray, List.set_cons_zero, List.set_cons_succ])
        refine wpAnyH_take (i := 2) (oi := { dst := some 88, op := Op.move (Operand.tmp 87), type := 4, pos := "outright.go:302", after := #[{ on := 1, ground := Ground.data }], guard := none }) (v := ?_) rfl (by kernel_rfl) (by kernel_rfl) (by kernel_rfl) (fun _ _ _ h => h) (Or.inl ⟨by rfl, ?_⟩) (by assumption) ?_
        rotate_left
        · intro wz hSz; (try dsimp only at hSz); go_simp; all_goals (with_reducible rfl)
        (try simp only [Act.put, List.setIfInBounds_toArray, List.set_cons_zero, List.set_cons_succ])
        refine wpAnyH_take (i := 3) (oi := { dst := some 89, op := Op.move (Operand.tmp 19), type := 3, pos := "outright.go:302", after := #[{ on := 2, ground := Ground.guard }], guard := some (2, false) }) (v := ?_) rfl (by kernel_rfl) (by kernel_rfl) (by kernel_rfl) (fun _ _ _ h => h) (Or.inl ⟨by rfl, ?_⟩) (by assumption) ?_
        rotate_left
        · intro wz hSz; (try dsimp only at hSz); go_simp; all_goals (with_reducible rfl)
        (try simp only [Act.put, List.setIfInBounds_toArray, List.set_cons_zero, List.set_cons_succ])
        refine wpAnyH_take (i := 4) (oi := { dst := some 90, op := Op.load 22 (Operand.tmp 14), type := 22, pos := "outright.go:302", after := #[{ on := 2, ground := Ground.guard }], guard := some (2, false) }) (v := ?_) rfl (by kernel_rfl) (by kernel_rfl) (by kernel_rfl) (fun _ _ _ h => h) (Or.inl ⟨by rfl, ?_⟩) (by assumption) ?_
        rotate_left
        · intro wz hSz; (try dsimp only at hSz); go_simp; all_goals (with_reducible rfl)
        (try simp only [Act.put, List.setIfInBounds_toArray, List.set_cons_zero, List.set_cons_succ])
        refine wpAnyH_take (i := 5) (oi := { dst := some 91, op := Op.move (Operand.tmp 18), type := 3, pos := "outright.go:302", after := #[{ on := 2, ground := Ground.guard }], guard := some (2, false) }) (v := ?_) rfl (by kernel_rfl) (by kernel_rfl) (by kernel_rfl) (fun _ _ _ h => h) (Or.inl ⟨by rfl, ?_⟩) (by assumption) ?_
        rotate_left
        · intro wz hSz; (try dsimp only at hSz); go_simp; all_goals (with_reducible rfl)
        (try simp only [Act.put, List.setIfInBounds_toArray, List.set_cons_zero, List.set_cons_succ])
        refine wpAnyH_take (i := 6) (oi := { dst := some 92, op := Op.indexAddr 22 (Operand.tmp 90) (Operand.tmp 91), type := 0, pos := "outright.go:302", after := #[{ on := 4, ground := Ground.data }, { on := 5, ground := Ground.data }, { on := 2, ground := Ground.guard }], guard := some (2, false) }) (v := ?_) rfl (by kernel_rfl) (by kernel_rfl) (by kernel_rfl) (fun _ _ _ h => h) (Or.inl ⟨by rfl, ?_⟩) (by assumption) ?_
        rotate_left
        · intro wz hSz; (try dsimp only at hSz); go_simp; all_goals (with_reducible rfl)
        (try simp only [Act.put, List.setIfInBounds_toArray, List.set_cons_zero, List.set_cons_succ])
        refine wpAnyH_take (i := 7) (oi := { dst := some 93, op := Op.load 3 (Operand.tmp 92), type := 3, pos := "outright.go:302", after := #[{ on := 6, ground := Ground.data }, { on := 2, ground := Ground.guard }], guard := some (2, false) }) (v := ?_) rfl (by kernel_rfl) (by kernel_rfl) (by kernel_rfl) (fun _ _ _ h => h) (Or.inl ⟨by rfl, ?_⟩) (by assumption) ?_
        rotate_left
        · intro wz hSz; (try dsimp only at hSz); go_simp; all_goals (with_reducible rfl)
        (try simp only [Act.put, List.setIfInBounds_toArray, List.set_cons_zero, List.set_cons_succ])
        refine wpAnyH_take (i := 8) (oi := { dst := some 94, op := Op.binOp BinOp.neq 3 (Operand.tmp 89) (Operand.tmp 93) 3, type := 4, pos := "outright.go:302", after := #[{ on := 3, ground := Ground.data }, { on := 7, ground := Ground.data }, { on := 2, ground := Ground.guard }], guard := some (2, false) }) (v := ?_) rfl (by kernel_rfl) (by kernel_rfl) (by kernel_rfl) (fun _ _ _ h => h) (Or.inl ⟨by rfl, ?_⟩) (by assumption) ?_
        rotate_left
        · intro wz hSz; (try dsimp only at hSz); go_simp; all_goals (with_reducible rfl)
        (try simp only [Act.put, List.setIfInBounds_toArray, List.set_cons_zero, List.set_cons_succ])
        refine wpAnyH_take (i := 9) (oi := { dst := some 95, op := Op.pick (Operand.tmp 88) (Operand.const (Value.bool true)) (Operand.tmp 94), type := 4, pos := "outright.go:302", after := #[{ on := 2, ground := Ground.data }, { on := 8, ground := Ground.data }], guard := none }) (v := ?_) rfl (by kernel_rfl) (by kernel_rfl) (by kernel_rfl) (fun _ _ _ h => h) (Or.inl ⟨by rfl, ?_⟩) (by assumption) ?_
        rotate_left
        · intro wz hSz; (try dsimp only at hSz); go_simp; all_goals (with_reducible rfl)
        (try simp only [Act.put, List.setIfInBounds_toArray, List.set_cons_zero, List.set_cons_succ])
        refine wpAnyH_take (i := 10) (oi := { dst := some 96, op := Op.move (Operand.tmp 95), type := 4, pos := "outright.go:302", after := #[{ on := 9, ground := Ground.data }, { on := 2, ground := Ground.chain }], guard := none }) (v := ?_) rfl (by kernel_rfl) (by kernel_rfl) (by kernel_rfl) (fun _ _ _ h => h) (Or.inl ⟨by rfl, ?_⟩) (by assumption) ?_
        rotate_left
        · intro wz hSz; (try dsimp only at hSz); go_simp; all_goals (with_reducible rfl)
        (try simp only [Act.put, List.setIfInBounds_toArray, List.set_cons_zero, List.set_cons_succ])
        refine wpAnyH_take (i := 11) (oi := { dst := some 97, op := Op.move (Operand.tmp 18), type := 3, pos := "outright.go:302", after := #[{ on := 10, ground := Ground.guard }], guard := some (10, false) }) (v := ?_) rfl (by kernel_rfl) (by kernel_rfl) (by kernel_rfl) (fun _ _ _ h => h) (Or.inl ⟨by rfl, ?_⟩) (by assumption) ?_
        rotate_left
        · intro wz hSz; (try dsimp only at hSz); go_simp; all_goals (with_reducible rfl)
        (try simp only [Act.put, List.setIfInBounds_toArray, List.set_cons_zero, List.set_cons_succ])
        refine wpAnyH_take (i := 12) (oi := { dst := some 98, op := Op.binOp BinOp.gtr 3 (Operand.tmp 97) (Operand.const (Value.int IntKind.i64 0)) 3, type := 4, pos := "outright.go:302", after := #[{ on := 11, ground := Ground.data }, { on := 10, ground := Ground.guard }], guard := some (10, false) }) (v := ?_) rfl (by kernel_rfl) (by kernel_rfl) (by kernel_rfl) (fun _ _ _ h => h) (Or.inl ⟨by rfl, ?_⟩) (by assumption) ?_
        rotate_left
        · intro wz hSz; (try dsimp only at hSz); go_simp; all_goals (with_reducible rfl)
        (try simp only [Act.put, List.setIfInBounds_toArray, List.set_cons_zero, List.set_cons_succ])
        refine wpAnyH_take (i := 13) (oi := { dst := some 99, op := Op.move (Operand.tmp 98), type := 4, pos := "outright.go:302", after := #[{ on := 12, ground := Ground.data }, { on := 10, ground := Ground.chain }, { on := 10, ground := Ground.guard }], guard := some (10, false) }) (v := ?_) rfl (by kernel_rfl) (by kernel_rfl) (by kernel_rfl) (fun _ _ _ h => h) (Or.inl ⟨by rfl, ?_⟩) (by assumption) ?_
        rotate_left
        · intro wz hSz; (try dsimp only at hSz); go_simp; all_goals (with_reducible rfl)
        (try simp only [Act.put, List.setIfInBounds_toArray, List.set_cons_zero, List.set_cons_succ])
        refine wpAnyH_take (i := 14) (oi := { dst := some 100, op := Op.load 22 (Operand.tmp 13), type := 22, pos := "outright.go:302", after := #[{ on := 13, ground := Ground.guard }], guard := some (13, true) }) (v := undef) rfl (by kernel_rfl) (by kernel_rfl) (by kernel_rfl) (fun _ _ _ h => h) (Or.inr ⟨by rfl, rfl⟩) (by assumption) ?_
        (try simp only [Act.put, List.setIfInBounds_toArray, List.set_cons_zero, List.set_cons_succ])
        refine wpAnyH_take (i := 15) (oi := { dst := some 101, op := Op.move (Operand.tmp 18), type := 3, pos := "outright.go:302", after := #[{ on := 13, ground := Ground.guard }], guard := some (13, true) }) (v := undef) rfl (by kernel_rfl) (by kernel_rfl) (by kernel_rfl) (fun _ _ _ h => h) (Or.inr ⟨by rfl, rfl⟩) (by assumption) ?_
        (try simp only [Act.put, List.setIfInBounds_toArray, List.set_cons_zero, List.set_cons_succ])
        refine wpAnyH_take (i := 16) (oi := { dst := some 102, op := Op.indexAddr 22 (Operand.tmp 100) (Operand.tmp 101), type := 0, pos := "outright.go:302", after := #[{ on := 14, ground := Ground.data }, { on := 15, ground := Ground.data }, { on := 13, ground := Ground.guard }], guard := some (13, true) }) (v := undef) rfl (by kernel_rfl) (by kernel_rfl) (by kernel_rfl) (fun _ _ _ h => h) (Or.inr ⟨by rfl, rfl⟩) (by assumption) ?_
        (try simp only [Act.put, List.setIfInBounds_toArray, List.set_cons_zero, List.set_cons_succ])
        refine wpAnyH_take (i := 17) (oi := { dst := some 103, op := Op.load 3 (Operand.tmp 102), type := 3, pos := "outright.go:302", after := #[{ on := 16, ground := Ground.data }, { on := 13, ground := Ground.guard }], guard := some (13, true) }) (v := undef) rfl (by kernel_rfl) (by kernel_rfl) (by kernel_rfl) (fun _ _ _ h => h) (Or.inr ⟨by rfl, rfl⟩) (by assumption) ?_
        (try simp only [Act.put, List.setIfInBounds_toArray, List.set_cons_zero, List.set_cons_succ])
        refine wpAnyH_take (i := 18) (oi := { dst := some 104, op := Op.load 22 (Operand.tmp 13), type := 22, pos := "outright.go:302", after := #[{ on := 13, ground := Ground.guard }], guard := some (13, true) }) (v := undef) rfl (by kernel_rfl) (by kernel_rfl) (by kernel_rfl) (fun _ _ _ h => h) (Or.inr ⟨by rfl, rfl⟩) (by assumption) ?_
        (try simp only [Act.put, List.setIfInBounds_toArray, List.set_cons_zero, List.set_cons_succ])
        refine wpAnyH_take (i := 19) (oi := { dst := some 105, op := Op.move (Operand.tmp 18), type := 3, pos := "outright.go:302", after := #[{ on := 13, ground := Ground.guard }], guard := some (13, true) }) (v := undef) rfl (by kernel_rfl) (by kernel_rfl) (by kernel_rfl) (fun _ _ _ h => h) (Or.inr ⟨by rfl, rfl⟩) (by assumption) ?_
        (try simp only [Act.put, List.setIfInBounds_toArray, List.set_cons_zero, List.set_cons_succ])
        refine wpAnyH_take (i := 20) (oi := { dst := some 106, op := Op.binOp BinOp.sub 3 (Operand.tmp 105) (Operand.const (Value.int IntKind.i64 1)) 3, type := 3, pos := "outright.go:302", after := #[{ on := 19, ground := Ground.data }, { on := 13, ground := Ground.guard }], guard := some (13, true) }) (v := undef) rfl (by kernel_rfl) (by kernel_rfl) (by kernel_rfl) (fun _ _ _ h => h) (Or.inr ⟨by rfl, rfl⟩) (by assumption) ?_
        (try simp only [Act.put, List.setIfInBounds_toArray, List.set_cons_zero, List.set_cons_succ])
        refine wpAnyH_take (i := 21) (oi := { dst := some 107, op := Op.indexAddr 22 (Operand.tmp 104) (Operand.tmp 106), type := 0, pos := "outright.go:302", after := #[{ on := 18, ground := Ground.data }, { on := 20, ground := Ground.data }, { on := 13, ground := Ground.guard }], guard := some (13, true) }) (v := undef) rfl (by kernel_rfl) (by kernel_rfl) (by kernel_rfl) (fun _ _ _ h => h) (Or.inr ⟨by rfl, rfl⟩) (by assumption) ?_
        (try simp only [Act.put, List.setIfInBounds_toArray, List.set_cons_zero, List.set_cons_succ])
        refine wpAnyH_take (i := 22) (oi := { dst := some 108, op := Op.load 3 (Operand.tmp 107), type := 3, pos := "outright.go:302", after := #[{ on := 21, ground := Ground.data }, { on := 13, ground := Ground.guard }], guard := some (13, true) }) (v := undef) rfl (by kernel_rfl) (by kernel_rfl) (by kernel_rfl) (fun _ _ _ h => h) (Or.inr ⟨by rfl, rfl⟩) (by assumption) ?_
        (try simp only [Act.put, List.setIfInBounds_toArray, List.set_cons_zero, List.set_cons_succ])
        refine wpAnyH_take (i := 23) (oi := { dst := some 109, op := Op.binOp BinOp.leq 3 (Operand.tmp 103) (Operand.tmp 108) 3, type := 4, pos := "outright.go:302", after := #[{ on := 17, ground := Ground.data }, { on := 22, ground := Ground.data }, { on := 13, ground := Ground.guard }], guard := some (13, true) }) (v := undef) rfl (by kernel_rfl) (by kernel_rfl) (by kernel_rfl) (fun _ _ _ h => h) (Or.inr ⟨by rfl, rfl⟩) (by assumption) ?_
        (try simp only [Act.put, List.setIfInBounds_toArray, List.set_cons_zero, List.set_cons_succ])
        refine wpAnyH_take (i := 24) (oi := { dst := some 110, op := Op.move (Operand.tmp 109), type := 4, pos := "outright.go:302", after := #[{ on := 23, ground := Ground.data }, { on := 13, ground := Ground.chain }, { on := 13, ground := Ground.guard }], guard := some (13, true) }) (v := undef) rfl (by kernel_rfl) (by kernel_rfl) (by kernel_rfl) (fun _ _ _ h => h) (Or.inr ⟨by rfl, rfl⟩) (by assumption) ?_
        (try simp only [Act.put, List.setIfInBounds_toArray, List.set_cons_zero, List.set_cons_succ])
        refine wpAnyH_take (i := 25) (oi := { dst := some 111, op := Op.load 22 (Operand.tmp 13), type := 22, pos := "outright.go:302", after := #[{ on := 24, ground := Ground.guard }], guard := some (24, false) }) (v := undef) rfl (by kernel_rfl) (by kernel_rfl) (by kernel_rfl) (fun _ _ _ h => h) (Or.inr ⟨by rfl, rfl⟩) (by assumption) ?_
        (try simp only [Act.put, List.setIfInBounds_toArray, List.set_cons_zero, List.set_cons_succ])
        refine wpAnyH_take (i := 26) (oi := { dst := some 112, op := Op.move (Operand.tmp 18), type := 3, pos := "outright.go:302", after := #[{ on := 24, ground := Ground.guard }], guard := some (24, false) }) (v := undef) rfl (by kernel_rfl) (by kernel_rfl) (by kernel_rfl) (fun _ _ _ h => h) (Or.inr ⟨by rfl, rfl⟩) (by assumption) ?_
        (try simp only [Act.put, List.setIfInBounds_toArray, List.set_cons_zero, List.set_cons_succ])
        refine wpAnyH_take (i := 27) (oi := { dst := some 113, op := Op.indexAddr 22 (Operand.tmp 111) (Operand.tmp 112), type := 0, pos := "outright.go:302", after := #[{ on := 25, ground := Ground.data }, { on := 26, ground := Ground.data }, { on := 24, ground := Ground.guard }], guard := some (24, false) }) (v := undef) rfl (by kernel_rfl) (by kernel_rfl) (by kernel_rfl) (fun _ _ _ h => h) (Or.inr ⟨by rfl, rfl⟩) (by assumption) ?_
        (try simp only [Act.put, List.setIfInBounds_toArray, List.set_cons_zero, List.set_cons_succ])
        refine wpAnyH_take (i := 28) (oi := { dst := some 114, op := Op.load 3 (Operand.tmp 113), type := 3, pos := "outright.go:302", after := #[{ on := 27, ground := Ground.data }, { on := 24, ground := Ground.guard }], guard := some (24, false) }) (v := undef) rfl (by kernel_rfl) (by kernel_rfl) (by kernel_rfl) (fun _ _ _ h => h) (Or.inr ⟨by rfl, rfl⟩) (by assumption) ?_
        (try simp only [Act.put, List.setIfInBounds_toArray, List.set_cons_zero, List.set_cons_succ])
        refine wpAnyH_take (i := 29) (oi := { dst := some 115, op := Op.move (Operand.tmp 12), type := 3, pos := "outright.go:302", after := #[{ on := 24, ground := Ground.guard }], guard := some (24, false) }) (v := undef) rfl (by kernel_rfl) (by kernel_rfl) (by kernel_rfl) (fun _ _ _ h => h) (Or.inr ⟨by rfl, rfl⟩) (by assumption) ?_
        (try simp only [Act.put, List.setIfInBounds_toArray, List.set_cons_zero, List.set_cons_succ])
        refine wpAnyH_take (i := 30) (oi := { dst := some 116, op := Op.binOp BinOp.geq 3 (Operand.tmp 114) (Operand.tmp 115) 3, type := 4, pos := "outright.go:302", after := #[{ on := 28, ground := Ground.data }, { on := 29, ground := Ground.data }, { on := 24, ground := Ground.guard }], guard := some (24, false) }) (v := undef) rfl (by kernel_rfl) (by kernel_rfl) (by kernel_rfl) (fun _ _ _ h => h) (Or.inr ⟨by rfl, rfl⟩) (by assumption) ?_
        (try simp only [Act.put, List.setIfInBounds_toArray, List.set_cons_zero, List.set_cons_succ])
        refine wpAnyH_take (i := 31) (oi := { dst := some 117, op := Op.pick (Operand.tmp 110) (Operand.const (Value.bool true)) (Operand.tmp 116), type := 4, pos := "outright.go:302", after := #[{ on := 24, ground := Ground.data }, { on := 30, ground := Ground.data }, { on := 13, ground := Ground.guard }], guard := some (13, true) }) (v := undef) rfl (by kernel_rfl) (by kernel_rfl) (by kernel_rfl) (fun _ _ _ h => h) (Or.inr ⟨by rfl, rfl⟩) (by assumption) ?_
        (try simp only [Act.put, List.setIfInBounds_toArray, List.set_cons_zero, List.set_cons_succ])
        refine wpAnyH_take (i := 32) (oi := { dst := some 118, op := Op.move (Operand.tmp 117), type := 4, pos := "outright.go:302", after := #[{ on := 31, ground := Ground.data }, { on := 24, ground := Ground.chain }, { on := 13, ground := Ground.guard }], guard := some (13, true) }) (v := undef) rfl (by kernel_rfl) (by kernel_rfl) (by kernel_rfl) (fun _ _ _ h => h) (Or.inr ⟨by rfl, rfl⟩) (by assumption) ?_
        (try simp only [Act.put, List.setIfInBounds_toArray, List.set_cons_zero, List.set_cons_succ])
        refine wpAnyH_take (i := 33) (oi := { dst := some 119, op := Op.load 22 (Operand.tmp 14), type := 22, pos := "outright.go:302", after := #[{ on := 32, ground := Ground.guard }], guard := some (32, false) }) (v := undef) rfl (by kernel_rfl) (by kernel_rfl) (by kernel_rfl) (fun _ _ _ h => h) (Or.inr ⟨by rfl, rfl⟩) (by assumption) ?_
        (try simp only [Act.put, List.setIfInBounds_toArray, List.set_cons_zero, List.set_cons_succ])
        refine wpAnyH_take (i := 34) (oi := { dst := some 120, op := Op.move (Operand.tmp 18), type := 3, pos := "outright.go:302", after := #[{ on := 32, ground := Ground.guard }], guard := some (32, false) }) (v := undef) rfl (by kernel_rfl) (by kernel_rfl) (by kernel_rfl) (fun _ _ _ h => h) (Or.inr ⟨by rfl, rfl⟩) (by assumption) ?_
        (try simp only [Act.put, List.setIfInBounds_toArray, List.set_cons_zero, List.set_cons_succ])
        refine wpAnyH_take (i := 35) (oi := { dst := some 121, op := Op.indexAddr 22 (Operand.tmp 119) (Operand.tmp 120), type := 0, pos := "outright.go:302", after := #[{ on := 33, ground := Ground.data }, { on := 34, ground := Ground.data }, { on := 32, ground := Ground.guard }], guard := some (32, false) }) (v := undef) rfl (by kernel_rfl) (by kernel_rfl) (by kernel_rfl) (fun _ _ _ h => h) (Or.inr ⟨by rfl, rfl⟩) (by assumption) ?_
        (try simp only [Act.put, List.setIfInBounds_toArray, List.set_cons_zero, List.set_cons_succ])
        refine wpAnyH_take (i := 36) (oi := { dst := some 122, op := Op.load 3 (Operand.tmp 121), type := 3, pos := "outright.go:302", after := #[{ on := 35, ground := Ground.data }, { on := 32, ground := Ground.guard }], guard := some (32, false) }) (v := undef) rfl (by kernel_rfl) (by kernel_rfl) (by kernel_rfl) (fun _ _ _ h => h) (Or.inr ⟨by rfl, rfl⟩) (by assumption) ?_
        (try simp only [Act.put, List.setIfInBounds_toArray, List.set_cons_zero, List.set_cons_succ])
        refine wpAnyH_take (i := 37) (oi := { dst := some 123, op := Op.load 22 (Operand.tmp 14), type := 22, pos := "outright.go:302", after := #[{ on := 32, ground := Ground.guard }], guard := some (32, false) }) (v := undef) rfl (by kernel_rfl) (by kernel_rfl) (by kernel_rfl) (fun _ _ _ h => h) (Or.inr ⟨by rfl, rfl⟩) (by assumption) ?_
        (try simp only [Act.put, List.setIfInBounds_toArray, List.set_cons_zero, List.set_cons_succ])
        refine wpAnyH_take (i := 38) (oi := { dst := some 124, op := Op.move (Operand.tmp 18), type := 3, pos := "outright.go:302", after := #[{ on := 32, ground := Ground.guard }], guard := some (32, false) }) (v := undef) rfl (by kernel_rfl) (by kernel_rfl) (by kernel_rfl) (fun _ _ _ h => h) (Or.inr ⟨by rfl, rfl⟩) (by assumption) ?_
        (try simp only [Act.put, List.setIfInBounds_toArray, List.set_cons_zero, List.set_cons_succ])
        refine wpAnyH_take (i := 39) (oi := { dst := some 125, op := Op.binOp BinOp.sub 3 (Operand.tmp 124) (Operand.const (Value.int IntKind.i64 1)) 3, type := 3, pos := "outright.go:302", after := #[{ on := 38, ground := Ground.data }, { on := 32, ground := Ground.guard }], guard := some (32, false) }) (v := undef) rfl (by kernel_rfl) (by kernel_rfl) (by kernel_rfl) (fun _ _ _ h => h) (Or.inr ⟨by rfl, rfl⟩) (by assumption) ?_
        (try simp only [Act.put, List.setIfInBounds_toArray, List.set_cons_zero, List.set_cons_succ])
        refine wpAnyH_take (i := 40) (oi := { dst := some 126, op := Op.indexAddr 22 (Operand.tmp 123) (Operand.tmp 125), type := 0, pos := "outright.go:302", after := #[{ on := 37, ground := Ground.data }, { on := 39, ground := Ground.data }, { on := 32, ground := Ground.guard }], guard := some (32, false) }) (v := undef) rfl (by kernel_rfl) (by kernel_rfl) (by kernel_rfl) (fun _ _ _ h => h) (Or.inr ⟨by rfl, rfl⟩) (by assumption) ?_
        (try simp only [Act.put, List.setIfInBounds_toArray, List.set_cons_zero, List.set_cons_succ])
        refine wpAnyH_take (i := 41) (oi := { dst := some 127, op := Op.load 3 (Operand.tmp 126), type := 3, pos := "outright.go:302", after := #[{ on := 40, ground := Ground.data }, { on := 32, ground := Ground.guard }], guard := some (32, false) }) (v := undef) rfl (by kernel_rfl) (by kernel_rfl) (by kernel_rfl) (fun _ _ _ h => h) (Or.inr ⟨by rfl, rfl⟩) (by assumption) ?_
        (try simp only [Act.put, List.setIfInBounds_toArray, List.set_cons_zero, List.set_cons_succ])
        refine wpAnyH_take (i := 42) (oi := { dst := some 128, op := Op.binOp BinOp.eql 3 (Operand.tmp 122) (Operand.tmp 127) 3, type := 4, pos := "outright.go:302", after := #[{ on := 36, ground := Ground.data }, { on := 41, ground := Ground.data }, { on := 32, ground := Ground.guard }], guard := some (32, false) }) (v := undef) rfl (by kernel_rfl) (by kernel_rfl) (by kernel_rfl) (fun _ _ _ h => h) (Or.inr ⟨by rfl, rfl⟩) (by assumption) ?_
        (try simp only [Act.put, List.setIfInBounds_toArray, List.set_cons_zero, List.set_cons_succ])
        refine wpAnyH_take (i := 43) (oi := { dst := some 129, op := Op.pick (Operand.tmp 118) (Operand.const (Value.bool true)) (Operand.tmp 128), type := 4, pos := "outright.go:302", after := #[{ on := 32, ground := Ground.data }, { on := 42, ground := Ground.data }, { on := 13, ground := Ground.guard }], guard := some (13, true) }) (v := undef) rfl (by kernel_rfl) (by kernel_rfl) (by kernel_rfl) (fun _ _ _ h => h) (Or.inr ⟨by rfl, rfl⟩) (by assumption) ?_
        (try simp only [Act.put, List.setIfInBounds_toArray, List.set_cons_zero, List.set_cons_succ])
        refine wpAnyH_take (i := 44) (oi := { dst := some 130, op := Op.pick (Operand.tmp 99) (Operand.tmp 129) (Operand.const (Value.bool false)), type := 4, pos := "outright.go:302", after := #[{ on := 13, ground := Ground.data }, { on := 43, ground := Ground.data }, { on := 10, ground := Ground.guard }], guard := some (10, false) }) (v := ?_) rfl (by kernel_rfl) (by kernel_rfl) (by kernel_rfl) (fun _ _ _ h => h) (Or.inl ⟨by rfl, ?_⟩) (by assumption) ?_
        rotate_left
        · intro wz hSz; (try dsimp only at hSz); go_simp; all_goals (with_reducible rfl)
        (try simp only [Act.put, List.setIfInBounds_toArray, List.set_cons_zero, List.set_cons_succ])
        refine wpAnyH_take (i := 45) (oi := { dst := some 131, op := Op.pick (Operand.tmp 96) (Operand.const (Value.bool true)) (Operand.tmp 130), type := 4, pos := "outright.go:302", after := #[{ on := 10, ground := Ground.data }, { on := 44, ground := Ground.data }], guard := none }) (v := ?_) rfl (by kernel_rfl) (by kernel_rfl) (by kernel_rfl) (fun _ _ _ h => h) (Or.inl ⟨by rfl, ?_⟩) (by assumption) ?_
        rotate_left
        · intro wz hSz; (try dsimp only at hSz); go_simp; all_goals (with_reducible rfl)
        (try simp only [Act.put, List.setIfInBounds_toArray, List.set_cons_zero, List.set_cons_succ])
        refine wpAnyH_done (by kernel_rfl) ?_ _
        refine NoPanic.normal ?_
        clear hHeld
        go_wp2_with fail
        go_roundg (gk - 1)
        case measure => go_light; omega
        case rel => exact ⟨1, by omega, by go_num, belT hbx.out ((Below.refl _ _).drew)⟩
      | succ k =>
        have t3 : (k : Int) + 1 < (PL.length : Int) := by omega
        have t5 : (0 : Int) ≤ (k : Int) + 1 := by omega
        have t6 : (0 : Int) < (k : Int) + 1 := by omega
        have t7 : (0 : Int) ≤ (k : Int) := by omega
        have t8 : (k : Int) < (PL.length : Int) := by omega
        have wk : IntKind.i64.wrap (k : Int) = (k : Int) := wrap64 _ (by omega)
        rw [show ((k + 1 : Nat) : Int) = (k : Int) + 1 by omega]
        have hlt0 : k < PL.length := by omega
        have hlo := hPw'.out.lo (k + 1) hlt
        obtain ⟨hhi, hsl⟩ := hPw'.out.hi (k + 1) hlt
        obtain ⟨hup, hdf⟩ := hPw'.out.up k hlt
        have p1 := (hbw.out.cell (p := ⟨g1, k + 1, none⟩) hg1).trans (hP1.out (k + 1) hlt)
        have hG2 : Hid (∀ W, Below A.heap.size A W → W.cell? ⟨g1, k + 1, none⟩ = some (.int .i64 PL[k + 1].1) ∧ W.cell? ⟨g2, k + 1, none⟩ = some (.int .i64 PL[k + 1].2) ∧ W.cell? ⟨g1, k, none⟩ = some (.int .i64 PL[k].1) ∧ W.cell? ⟨g2, k, none⟩ = some (.int .i64 PL[k].2)) := fun W hW => ⟨(hW.cell (p := ⟨g1, k + 1, none⟩) hg1).trans (hP1.out (k + 1) hlt), (hW.cell (p := ⟨g2, k + 1, none⟩) hg2).trans (hP2.out (k + 1) hlt), (hW.cell (p := ⟨g1, k, none⟩) hg1).trans (hP1.out k hlt0), (hW.cell (p := ⟨g2, k, none⟩) hg2).trans (hP2.out k hlt0)⟩
        have hsl' : Hid (slF t PL[k + 1].1 = PL[k + 1].2) := hsl.symm
        clear hsl hfirst
        generalize PL[k + 1].1 = y1 at *
        generalize PL[k + 1].2 = z1 at *
        generalize PL[k].1 = y0 at *
        generalize PL[k].2 = z0 at *
        have e2 : (z1 == z0) = false := beq_eq_false_iff_ne.2 hdf
        have k7 := c7.out y1
        rw [hsl'.out] at k7
        have c7s : Hid _ := k7
        clear k7
        go_wp2_with fail
        refine wp_region_noPanic ?_
        refine wp_region_held_drew (S := fun w' => (∀ j, w'.cell? ⟨q, j, none⟩ = (#[.string t.nm, .slice aD t.D.length cD, .int .i64 t.w0, .int .i64 t.w1, .int .i64 t.w2, .int .i64 t.w3, .int .i64 t.w4, .int .i64 t.w5, .int .i64 t.w6, .slice aS t.S.length cS, .slice aX t.X.length cX, .slice aH t.H.length cH] : Array Value)[j]?) ∧ w'.cell? ⟨q + 1 + 1, 0, none⟩ = some (.slice (some ⟨g1, 0, none⟩) PL.length cap1) ∧ w'.cell? ⟨g1, k + 1, none⟩ = some (.int .i64 y1) ∧ Hid (Below A.heap.size A w')) (by kernel_rfl) ?_ (fun hHeld => ?_)
        · (try dsimp only)
          exact ⟨u0, u1 0, p1, hbw.out.drew⟩
        refine wpAnyH_take (i := 0) (oi := { dst := some 78, op := Op.load 29 (Operand.tmp 9), type := 29, pos := "outright.go:301", after := #[], guard := none }) (v := ?_) rfl (by kernel_rfl) (by kernel_rfl) (by kernel_rfl) (fun _ _ _ h => h) (Or.inl ⟨by rfl, ?_⟩) (by assumption) ?_
        rotate_left
        · intro wz hSz; (try dsimp only at hSz); go_simp; all_goals (with_reducible rfl)
        (try simp only [Act.put, List.setIfInBounds_toArray, List.set_cons_zero, List.set_cons_succ])
        refine wpAnyH_take (i := 1) (oi := { dst := some 79, op := Op.load 22 (Operand.tmp 13), type := 22, pos := "outright.go:301", after := #[], guard := none }) (v := ?_) rfl (by kernel_rfl) (by kernel_rfl) (by kernel_rfl) (fun _ _ _ h => h) (Or.inl ⟨by rfl, ?_⟩) (by assumption) ?_
        rotate_left
        · intro wz hSz; (try dsimp only at hSz); go_simp; all_goals (with_reducible rfl)
        (try simp only [Act.put, List.setIfInBounds_toArray, List.set_cons_zero, List.set_cons_succ])
        refine wpAnyH_take (i := 2) (oi := { dst := some 80, op := Op.move (Operand.tmp 18), type := 3, pos := "outright.go:301", after := #[], guard := none }) (v := ?_) rfl (by kernel_rfl) (by kernel_rfl) (by kernel_rfl) (fun _ _ _ h => h) (Or.inl ⟨by rfl, ?_⟩) (by assumption) ?_
        rotate_left
        · intro wz hSz; (try dsimp only at hSz); go_simp; all_goals (with_reducible rfl)
        (try simp only [Act.put, List.setIfInBounds_toArray, List.set_cons_zero, List.set_cons_succ])
        refine wpAnyH_take (i := 3) (oi := { dst := some 81, op := Op.indexAddr 22 (Operand.tmp 79) (Operand.tmp 80), type := 0, pos := "outright.go:301", after := #[{ on := 1, ground := Ground.data }, { on := 2, ground := Ground.data }], guard := none }) (v := ?_) rfl (by kernel_rfl) (by kernel_rfl) (by kernel_rfl) (fun _ _ _ h => h) (Or.inl ⟨by rfl, ?_⟩) (by assumption) ?_
        rotate_left
        · intro wz hSz; (try dsimp only at hSz); go_simp; all_goals (with_reducible rfl)
        (try simp only [Act.put, List.setIfInBounds_toArray, List.set_cons_zero, List.set_cons_succ])
        refine wpAnyH_take (i := 4) (oi := { dst := some 82, op := Op.load 3 (Operand.tmp 81), type := 3, pos := "outright.go:301", after := #[{ on := 3, ground := Ground.data }], guard := none }) (v := ?_) rfl (by kernel_rfl) (by kernel_rfl) (by kernel_rfl) (fun _ _ _ h => h) (Or.inl ⟨by rfl, ?_⟩) (by assumption) ?_
        rotate_left
        · intro wz hSz; (try dsimp only at hSz); go_simp; all_goals (with_reducible rfl)
        (try simp only [Act.put, List.setIfInBounds_toArray, List.set_cons_zero, List.set_cons_succ])
        refine wpAnyH_ready (rs := [5]) (by kernel_rfl) (by simp) ?_
        refine AllReadyH.cons (o := { dst := some 83, op := Op.call { callee := Callee.value (Operand.func 7), args := #[Operand.tmp 78, Operand.tmp 82], argTypes := #[29, 3] }, type := 37, pos := "outright.go:301", after := #[{ on := 0, ground := Ground.data }, { on := 4, ground := Ground.data }], guard := none }) rfl (fun K hK => ?_) AllReadyH.nil
        go_simp
        go_at_call 7; (with_reducible refine (c7s.out _ (by omega) (by omega) hHeld.2.2.2.out).mono ?_); rintro e w5 ⟨rfl, hb5⟩
        go_wp2_with fail
        refine hK.out _ _ ?_ (fun hHeld => ?_)
        · (try dsimp only)
          exact ⟨fun j => (hb5.cell (p := ⟨q, j, none⟩) (cell_ltF ((hHeld.1 0).trans rfl))).trans (hHeld.1 j), (hb5.cell (p := ⟨q + 1 + 1, 0, none⟩) (cell_ltF hHeld.2.1)).trans hHeld.2.1, (hb5.cell (p := ⟨g1, k + 1, none⟩) (cell_ltF hHeld.2.2.1)).trans hHeld.2.2.1, belT hHeld.2.2.2.out hb5⟩
        clear hK K
        (try simp only [Act.put, List.setIfInBounds_toArray, List.set_cons_zero, List.set_cons_succ])
        refine wpAnyH_take (i := 6) (oi := { dst := some 77, op := Op.move (Operand.tmp 83), type := 37, pos := "outright.go:301", after := #[{ on := 5, ground := Ground.data }], guard := none }) (v := ?_) rfl (by kernel_rfl) (by kernel_rfl) (by kernel_rfl) (fun _ _ _ h => h) (Or.inl ⟨by rfl, ?_⟩) (by assumption) ?_
        rotate_left
        · intro wz hSz; (try dsimp only at hSz); go_simp; all_goals (with_reducible rfl)
        (try simp only [Act.put, List.setIfInBounds_toArray, List.set_cons_zero, List.set_cons_succ])
        refine wpAnyH_take (i := 7) (oi := { dst := some 84, op := Op.extract (Operand.tmp 77) 0, type := 3, pos := "outright.go:301", after := #[{ on := 6, ground := Ground.data }], guard := none }) (v := ?_) rfl (by kernel_rfl) (by kernel_rfl) (by kernel_rfl) (fun _ _ _ h => h) (Or.inl ⟨by rfl, ?_⟩) (by assumption) ?_
        rotate_left
        · intro wz hSz; (try dsimp only at hSz); go_simp; all_goals (with_reducible rfl)
        (try simp only [Act.put, List.setIfInBounds_toArray, List.set_cons_zero, List.set_cons_succ])
        refine wpAnyH_take (i := 8) (oi := { dst := some 85, op := Op.extract (Operand.tmp 77) 1, type := 36, pos := "outright.go:301", after := #[{ on := 6, ground := Ground.data }, { on := 9, ground := Ground.gcOnly Departure.lateStores }], guard := none }) (v := ?_) rfl (by kernel_rfl) (by kernel_rfl) (by kernel_rfl) (fun _ _ _ h => h) (Or.inl ⟨by rfl, ?_⟩) (by assumption) ?_
        rotate_left
        · intro wz hSz; (try dsimp only at hSz); go_simp; all_goals (with_reducible rfl)
        (try simp only [Act.put, List.setIfInBounds_toArray, List.set_cons_zero, List.set_cons_succ])
        refine wpAnyH_take (i := 9) (oi := { dst := some 19, op := Op.assign (Operand.tmp 84), type := 3, pos := "outright.go:301", after := #[{ on := 7, ground := Ground.data }, { on := 5, ground := Ground.chain }, { on := 0, ground := Ground.phase }, { on := 1, ground := Ground.phase }, { on := 2, ground := Ground.phase }, { on := 3, ground := Ground.phase }, { on := 4, ground := Ground.phase }, { on := 5, ground := Ground.phase }, { on := 6, ground := Ground.phase }, { on := 7, ground := Ground.phase }, { on := 8, ground := Ground.textOnly Departure.lateStores }], guard := none }) (v := ?_) rfl (by kernel_rfl) (by kernel_rfl) (by kernel_rfl) (fun _ _ _ h => h) (Or.inl ⟨by rfl, ?_⟩) (by assumption) ?_
        rotate_left
        · intro wz hSz; (try dsimp only at hSz); go_simp; all_goals (with_reducible rfl)
        (try simp only [Act.put, List.setIfInBounds_toArray, List.set_cons_zero, List.set_cons_succ])
        refine wpAnyH_take (i := 10) (oi := { dst := some 20, op := Op.assign (Operand.tmp 85), type := 36, pos := "outright.go:301", after := #[{ on := 8, ground := Ground.data }, { on := 9, ground := Ground.chain }, { on := 0, ground := Ground.phase }, { on := 1, ground := Ground.phase }, { on := 2, ground := Ground.phase }, { on := 3, ground := Ground.phase }, { on := 4, ground := Ground.phase }, { on := 5, ground := Ground.phase }, { on := 6, ground := Ground.phase }, { on := 7, ground := Ground.phase }, { on := 8, ground := Ground.phase }, { on := 9, ground := Ground.phase }], guard := none }) (v := ?_) rfl (by kernel_rfl) (by kernel_rfl) (by kernel_rfl) (fun _ _ _ h => h) (Or.inl ⟨by rfl, ?_⟩) (by assumption) ?_
        rotate_left
        · intro wz hSz; (try dsimp only at hSz); go_simp; all_goals (with_reducible rfl)
        (try simp only [Act.put, List.setIfInBounds_toArray, List.set_cons_zero, List.set_cons_succ])
        refine wpAnyH_done (by kernel_rfl) ?_ _
        refine NoPanic.normal ?_
        have hbx : Hid (Below A.heap.size A w5) := hHeld.2.2.2.out
        obtain ⟨_, u3, _⟩ := id (hA1.below hbx.out)
        obtain ⟨_, u4, _⟩ := id (hA2.below hbx.out)
        obtain ⟨r1, r2, r3, r4⟩ := hG2.out _ hbx.out
        clear hHeld u0 u1 p1
        go_wp2_with fail
        have e1 : ¬ y1 ≤ y0 := by omega
        have e3 : ¬ f + 1 + g ≤ y1 := by omega
        have e1b : decide (y1 ≤ y0) = false := decide_eq_false e1
        have e3b : decide (f + 1 + g ≤ y1) = false := decide_eq_false e3
        refine wp_region_noPanic ?_
        refine wp_region_held_drew (S := fun w' => w'.cell? ⟨q + 1 + 1, 0, none⟩ = some (.slice (some ⟨g1, 0, none⟩) PL.length cap1) ∧ w'.cell? ⟨q + 1 + 1 + 1 + 1, 0, none⟩ = some (.slice (some ⟨g2, 0, none⟩) PL.length cap2) ∧ w'.cell? ⟨g1, k + 1, none⟩ = some (.int .i64 y1) ∧ w'.cell? ⟨g2, k + 1, none⟩ = some (.int .i64 z1) ∧ w'.cell? ⟨g1, k, none⟩ = some (.int .i64 y0) ∧ w'.cell? ⟨g2, k, none⟩ = some (.int .i64 z0)) (by kernel_rfl) ?_ (fun hHeld => ?_)
        · (try dsimp only)
          exact ⟨u3 0, u4 0, r1, r2, r3, r4⟩
        refine wpAnyH_take (i := 0) (oi := { dst := some 86, op := Op.move (Operand.tmp 20), type := 36, pos := "outright.go:302", after := #[], guard := none }) (v := ?_) rfl (by kernel_rfl) (by kernel_rfl) (by kernel_rfl) (fun _ _ _ h => h) (Or.inl ⟨by rfl, ?_⟩) (by assumption) ?_
        rotate_left
        · intro wz hSz; (try dsimp only at hSz); go_simp; all_goals (with_reducible rfl)
        (try simp only [Act.put, List.setIfInBounds_toArray, List.set_cons_zero, List.set_cons_succ])
        refine wpAnyH_take (i := 1) (oi := { dst := some 87, op := Op.binOp BinOp.neq 36 (Operand.tmp 86) (Operand.const (Value.int IntKind.i64 0)) 36, type := 4, pos := "outright.go:302", after := #[{ on := 0, ground := Ground.data }], guard := none }) (v := ?_) rfl (by kernel_rfl) (by kernel_rfl) (by kernel_rfl) (fun _ _ _ h => h) (Or.inl ⟨by rfl, ?_⟩) (by assumption) ?_
        rotate_left
        · intro wz hSz; (try dsimp only at hSz); go_simp; all_goals (with_reducible rfl)
        (try simp only [Act.put, List.setIfInBounds_toArray, List.set_cons_zero, List.set_cons_succ])
        refine wpAnyH_take (i := 2) (oi := { dst := some 88, op := Op.move (Operand.tmp 87), type := 4, pos := "outright.go:302", after := #[{ on := 1, ground := Ground.data }], guard := none }) (v := ?_) rfl (by kernel_rfl) (by kernel_rfl) (by kernel_rfl) (fun _ _ _ h => h) (Or.inl ⟨by rfl, ?_⟩) (by assumption) ?_
        rotate_left
        · intro wz hSz; (try dsimp only at hSz); go_simp; all_goals (with_reducible rfl)
        (try simp only [Act.put, List.setIfInBounds_toArray, List.set_cons_zero, List.set_cons_succ])
        refine wpAnyH_take (i := 3) (oi := { dst := some 89, op := Op.move (Operand.tmp 19), type := 3, pos := "outright.go:302", after := #[{ on := 2, ground := Ground.guard }], guard := some (2, false) }) (v := ?_) rfl (by kernel_rfl) (by kernel_rfl) (by kernel_rfl) (fun _ _ _ h => h) (Or.inl ⟨by rfl, ?_⟩) (by assumption) ?_
        rotate_left
        · intro wz hSz; (try dsimp only at hSz); go_simp; all_goals (with_reducible rfl)
        (try simp only [Act.put, List.setIfInBounds_toArray, List.set_cons_zero, List.set_cons_succ])
        refine wpAnyH_take (i := 4) (oi := { dst := some 90, op := Op.load 22 (Operand.tmp 14), type := 22, pos := "outright.go:302", after := #[{ on := 2, ground := Ground.guard }], guard := some (2, false) }) (v := ?_) rfl (by kernel_rfl) (by kernel_rfl) (by kernel_rfl) (fun _ _ _ h => h) (Or.inl ⟨by rfl, ?_⟩) (by assumption) ?_
        rotate_left
        · intro wz hSz; (try dsimp only at hSz); go_simp; all_goals (with_reducible rfl)
        (try simp only [Act.put, List.setIfInBounds_toArray, List.set_cons_zero, List.set_cons_succ])
        refine wpAnyH_take (i := 5) (oi := { dst := some 91, op := Op.move (Operand.tmp 18), type := 3, pos := "outright.go:302", after := #[{ on := 2, ground := Ground.guard }], guard := some (2, false) }) (v := ?_) rfl (by kernel_rfl) (by kernel_rfl) (by kernel_rfl) (fun _ _ _ h => h) (Or.inl ⟨by rfl, ?_⟩) (by assumption) ?_
        rotate_left
        · intro wz hSz; (try dsimp only at hSz); go_simp; all_goals (with_reducible rfl)
        (try simp only [Act.put, List.setIfInBounds_toArray, List.set_cons_zero, List.set_cons_succ])
        refine wpAnyH_take (i := 6) (oi := { dst := some 92, op := Op.indexAddr 22 (Operand.tmp 90) (Operand.tmp 91), type := 0, pos := "outright.go:302", after := #[{ on := 4, ground := Ground.data }, { on := 5, ground := Ground.data }, { on := 2, ground := Ground.guard }], guard := some (2, false) }) (v := ?_) rfl (by kernel_rfl) (by kernel_rfl) (by kernel_rfl) (fun _ _ _ h => h) (Or.inl ⟨by rfl, ?_⟩) (by assumption) ?_
        rotate_left
        · intro wz hSz; (try dsimp only at hSz); go_simp; all_goals (with_reducible rfl)
        (try simp only [Act.put, List.setIfInBounds_toArray, List.set_cons_zero, List.set_cons_succ])
        refine wpAnyH_take (i := 7) (oi := { dst := some 93, op := Op.load 3 (Operand.tmp 92), type := 3, pos := "outright.go:302", after := #[{ on := 6, ground := Ground.data }, { on := 2, ground := Ground.guard }], guard := some (2, false) }) (v := ?_) rfl (by kernel_rfl) (by kernel_rfl) (by kernel_rfl) (fun _ _ _ h => h) (Or.inl ⟨by rfl, ?_⟩) (by assumption) ?_
        rotate_left
        · intro wz hSz; (try dsimp only at hSz); go_simp; all_goals (with_reducible rfl)
        (try simp only [Act.put, List.setIfInBounds_toArray, List.set_cons_zero, List.set_cons_succ])
        refine wpAnyH_take (i := 8) (oi := { dst := some 94, op := Op.binOp BinOp.neq 3 (Operand.tmp 89) (Operand.tmp 93) 3, type := 4, pos := "outright.go:302", after := #[{ on := 3, ground := Ground.data }, { on := 7, ground := Ground.data }, { on := 2, ground := Ground.guard }], guard := some (2, false) }) (v := ?_) rfl (by kernel_rfl) (by kernel_rfl) (by kernel_rfl) (fun _ _ _ h => h) (Or.inl ⟨by rfl, ?_⟩) (by assumption) ?_
        rotate_left
        · intro wz hSz; (try dsimp only at hSz); go_simp; all_goals (with_reducible rfl)
        (try simp only [Act.put, List.setIfInBounds_toArray, List.set_cons_zero, List.set_cons_succ])
        refine wpAnyH_take (i := 9) (oi := { dst := some 95, op := Op.pick (Operand.tmp 88) (Operand.const (Value.bool true)) (Operand.tmp 94), type := 4, pos := "outright.go:302", after := #[{ on := 2, ground := Ground.data }, { on := 8, ground := Ground.data }], guard := none }) (v := ?_) rfl (by kernel_rfl) (by kernel_rfl) (by kernel_rfl) (fun _ _ _ h => h) (Or.inl ⟨by rfl, ?_⟩) (by assumption) ?_
        rotate_left
        · intro wz hSz; (try dsimp only at hSz); go_simp; all_goals (with_reducible rfl)
        (try simp only [Act.put, List.setIfInBounds_toArray, List.set_cons_zero, List.set_cons_succ])
        refine wpAnyH_take (i := 10) (oi := { dst := some 96, op := Op.move (Operand.tmp 95), type := 4, pos := "outright.go:302", after := #[{ on := 9, ground := Ground.data }, { on := 2, ground := Ground.chain }], guard := none }) (v := ?_) rfl (by kernel_rfl) (by kernel_rfl) (by kernel_rfl) (fun _ _ _ h => h) (Or.inl ⟨by rfl, ?_⟩) (by assumption) ?_
        rotate_left
        · intro wz hSz; (try dsimp only at hSz); go_simp; all_goals (with_reducible rfl)
        (try simp only [Act.put, List.setIfInBounds_toArray, List.set_cons_zero, List.set_cons_succ])
        refine wpAnyH_take (i := 11) (oi := { dst := some 97, op := Op.move (Operand.tmp 18), type := 3, pos := "outright.go:302", after := #[{ on := 10, ground := Ground.guard }], guard := some (10, false) }) (v := ?_) rfl (by kernel_rfl) (by kernel_rfl) (by kernel_rfl) (fun _ _ _ h => h) (Or.inl ⟨by rfl, ?_⟩) (by assumption) ?_
        rotate_left
        · intro wz hSz; (try dsimp only at hSz); go_simp; all_goals (with_reducible rfl)
        (try simp only [Act.put, List.setIfInBounds_toArray, List.set_cons_zero, List.set_cons_succ])
        refine wpAnyH_take (i := 12) (oi := { dst := some 98, op := Op.binOp BinOp.gtr 3 (Operand.tmp 97) (Operand.const (Value.int IntKind.i64 0)) 3, type := 4, pos := "outright.go:302", after := #[{ on := 11, ground := Ground.data }, { on := 10, ground := Ground.guard }], guard := some (10, false) }) (v := ?_) rfl (by kernel_rfl) (by kernel_rfl) (by kernel_rfl) (fun _ _ _ h => h) (Or.inl ⟨by rfl, ?_⟩) (by assumption) ?_
        rotate_left
        · intro wz hSz; (try dsimp only at hSz); go_simp; all_goals (with_reducible rfl)
        (try simp only [Act.put, List.setIfInBounds_toArray, List.set_cons_zero, List.set_cons_succ])
        refine wpAnyH_take (i := 13) (oi := { dst := some 99, op := Op.move (Operand.tmp 98), type := 4, pos := "outright.go:302", after := #[{ on := 12, ground := Ground.data }, { on := 10, ground := Ground.chain }, { on := 10, ground := Ground.guard }], guard := some (10, false) }) (v := ?_) rfl (by kernel_rfl) (by kernel_rfl) (by kernel_rfl) (fun _ _ _ h => h) (Or.inl ⟨by rfl, ?_⟩) (by assumption) ?_
        rotate_left
        · intro wz hSz; (try dsimp only at hSz); go_simp; all_goals (with_reducible rfl)
        (try simp only [Act.put, List.setIfInBounds_toArray, List.set_cons_zero, List.set_cons_succ])
        refine wpAnyH_take (i := 14) (oi := { dst := some 100, op := Op.load 22 (Operand.tmp 13), type := 22, pos := "outright.go:302", after := #[{ on := 13, ground := Ground.guard }], guard := some (13, true) }) (v := ?_) rfl (by kernel_rfl) (by kernel_rfl) (by kernel_rfl) (fun _ _ _ h => h) (Or.inl ⟨by rfl, ?_⟩) (by assumption) ?_
        rotate_left
        · intro wz hSz; (try dsimp only at hSz); go_simp; all_goals (with_reducible rfl)
        (try simp only [Act.put, List.setIfInBounds_toArray, List.set_cons_zero, List.set_cons_succ])
        refine wpAnyH_take (i := 15) (oi := { dst := some 101, op := Op.move (Operand.tmp 18), type := 3, pos := "outright.go:302", after := #[{ on := 13, ground := Ground.guard }], guard := some (13, true) }) (v := ?_) rfl (by kernel_rfl) (by kernel_rfl) (by kernel_rfl) (fun _ _ _ h => h) (Or.inl ⟨by rfl, ?_⟩) (by assumption) ?_
        rotate_left
        · intro wz hSz; (try dsimp only at hSz); go_simp; all_goals (with_reducible rfl)
        (try simp only [Act.put, List.setIfInBounds_toArray, List.set_cons_zero, List.set_cons_succ])
        refine wpAnyH_take (i := 16) (oi := { dst := some 102, op := Op.indexAddr 22 (Operand.tmp 100) (Operand.tmp 101), type := 0, pos := "outright.go:302", after := #[{ on := 14, ground := Ground.data }, { on := 15, ground := Ground.data }, { on := 13, ground := Ground.guard }], guard := some (13, true) }) (v := ?_) rfl (by kernel_rfl) (by kernel_rfl) (by kernel_rfl) (fun _ _ _ h => h) (Or.inl ⟨by rfl, ?_⟩) (by assumption) ?_
        rotate_left
        · intro wz hSz; (try dsimp only at hSz); go_simp; all_goals (with_reducible rfl)
        (try simp only [Act.put, List.setIfInBounds_toArray, List.set_cons_zero, List.set_cons_succ])
        refine wpAnyH_take (i := 17) (oi := { dst := some 103, op := Op.load 3 (Operand.tmp 102), type := 3, pos := "outright.go:302", after := #[{ on := 16, ground := Ground.data }, { on := 13, ground := Ground.guard }], guard := some (13, true) }) (v := ?_) rfl (by kernel_rfl) (by kernel_rfl) (by kernel_rfl) (fun _ _ _ h => h) (Or.inl ⟨by rfl, ?_⟩) (by assumption) ?_
        rotate_left
        · intro wz hSz; (try dsimp only at hSz); go_simp; all_goals (with_reducible rfl)
        (try simp only [Act.put, List.setIfInBounds_toArray, List.set_cons_zero, List.set_cons_succ])
        refine wpAnyH_take (i := 18) (oi := { dst := some 104, op := Op.load 22 (Operand.tmp 13), type := 22, pos := "outright.go:302", after := #[{ on := 13, ground := Ground.guard }], guard := some (13, true) }) (v := ?_) rfl (by kernel_rfl) (by kernel_rfl) (by kernel_rfl) (fun _ _ _ h => h) (Or.inl ⟨by rfl, ?_⟩) (by assumption) ?_
        rotate_left
        · intro wz hSz; (try dsimp only at hSz); go_simp; all_goals (with_reducible rfl)
        (try simp only [Act.put, List.setIfInBounds_toArray, List.set_cons_zero, List.set_cons_succ])
        refine wpAnyH_take (i := 19) (oi := { dst := some 105, op := Op.move (Operand.tmp 18), type := 3, pos := "outright.go:302", after := #[{ on := 13, ground := Ground.guard }], guard := some (13, true) }) (v := ?_) rfl (by kernel_rfl) (by kernel_rfl) (by kernel_rfl) (fun _ _ _ h => h) (Or.inl ⟨by rfl, ?_⟩) (by assumption) ?_
        rotate_left
        · intro wz hSz; (try dsimp only at hSz); go_simp; all_goals (with_reducible rfl)
        (try simp only [Act.put, List.setIfInBounds_toArray, List.set_cons_zero, List.set_cons_succ])
        refine wpAnyH_take (i := 20) (oi := { dst := some 106, op := Op.binOp BinOp.sub 3 (Operand.tmp 105) (Operand.const (Value.int IntKind.i64 1)) 3, type := 3, pos := "outright.go:302", after := #[{ on := 19, ground := Ground.data }, { on := 13, ground := Ground.guard }], guard := some (13, true) }) (v := ?_) rfl (by kernel_rfl) (by kernel_rfl) (by kernel_rfl) (fun _ _ _ h => h) (Or.inl ⟨by rfl, ?_⟩) (by assumption) ?_
        rotate_left
        · intro wz hSz; (try dsimp only at hSz); go_simp; all_goals (with_reducible rfl)
        (try simp only [Act.put, List.setIfInBounds_toArray, List.set_cons_zero, List.set_cons_succ])
        refine wpAnyH_take (i := 21) (oi := { dst := some 107, op := Op.indexAddr 22 (Operand.tmp 104) (Operand.tmp 106), type := 0, pos := "outright.go:302", after := #[{ on := 18, ground := Ground.data }, { on := 20, ground := Ground.data }, { on := 13, ground := Ground.guard }], guard := some (13, true) }) (v := ?_) rfl (by kernel_rfl) (by kernel_rfl) (by kernel_rfl) (fun _ _ _ h => h) (Or.inl ⟨by rfl, ?_⟩) (by assumption) ?_
        rotate_left
        · intro wz hSz; (try dsimp only at hSz); go_simp; all_goals (with_reducible rfl)
        (try simp only [Act.put, List.setIfInBounds_toArray, List.set_cons_zero, List.set_cons_succ])
        refine wpAnyH_take (i := 22) (oi := { dst := some 108, op := Op.load 3 (Operand.tmp 107), type := 3, pos := "outright.go:302", after := #[{ on := 21, ground := Ground.data }, { on := 13, ground := Ground.guard }], guard := some (13, true) }) (v := ?_) rfl (by kernel_rfl) (by kernel_rfl) (by kernel_rfl) (fun _ _ _ h => h) (Or.inl ⟨by rfl, ?_⟩) (by assumption) ?_
        rotate_left
        · intro wz hSz; (try dsimp only at hSz); go_simp; all_goals (with_reducible rfl)
        (try simp only [Act.put, List.setIfInBounds_toArray, List.set_cons_zero, List.set_cons_succ])
        refine wpAnyH_take (i := 23) (oi := { dst := some 109, op := Op.binOp BinOp.leq 3 (Operand.tmp 103) (Operand.tmp 108) 3, type := 4, pos := "outright.go:302", after := #[{ on := 17, ground := Ground.data }, { on := 22, ground := Ground.data }, { on := 13, ground := Ground.guard }], guard := some (13, true) }) (v := ?_) rfl (by kernel_rfl) (by kernel_rfl) (by kernel_rfl) (fun _ _ _ h => h) (Or.inl ⟨by rfl, ?_⟩) (by assumption) ?_
        rotate_left
        · intro wz hSz; (try dsimp only at hSz); go_simp; all_goals (with_reducible rfl)
        (try simp only [Act.put, List.setIfInBounds_toArray, List.set_cons_zero, List.set_cons_succ])
        refine wpAnyH_take (i := 24) (oi := { dst := some 110, op := Op.move (Operand.tmp 109), type := 4, pos := "outright.go:302", after := #[{ on := 23, ground := Ground.data }, { on := 13, ground := Ground.chain }, { on := 13, ground := Ground.guard }], guard := some (13, true) }) (v := ?_) rfl (by kernel_rfl) (by kernel_rfl) (by kernel_rfl) (fun _ _ _ h => h) (Or.inl ⟨by rfl, ?_⟩) (by assumption) ?_
        rotate_left
        · intro wz hSz; (try dsimp only at hSz); go_simp; all_goals (with_reducible rfl)
        (try simp only [Act.put, List.setIfInBounds_toArray, List.set_cons_zero, List.set_cons_succ])
        refine wpAnyH_take (i := 25) (oi := { dst := some 111, op := Op.load 22 (Operand.tmp 13), type := 22, pos := "outright.go:302", after := #[{ on := 24, ground := Ground.guard }], guard := some (24, false) }) (v := ?_) rfl (by kernel_rfl) (by kernel_rfl) (by kernel_rfl) (fun _ _ _ h => h) (Or.inl ⟨by rfl, ?_⟩) (by assumption) ?_
        rotate_left
        · intro wz hSz; (try dsimp only at hSz); go_simp; all_goals (with_reducible rfl)
        (try simp only [Act.put, List.setIfInBounds_toArray, List.set_cons_zero, List.set_cons_succ])
        refine wpAnyH_take (i := 26) (oi := { dst := some 112, op := Op.move (Operand.tmp 18), type := 3, pos := "outright.go:302", after := #[{ on := 24, ground := Ground.guard }], guard := some (24, false) }) (v := ?_) rfl (by kernel_rfl) (by kernel_rfl) (by kernel_rfl) (fun _ _ _ h => h) (Or.inl ⟨by rfl, ?_⟩) (by assumption) ?_
        rotate_left
        · intro wz hSz; (try dsimp only at hSz); go_simp; all_goals (with_reducible rfl)
        (try simp only [Act.put, List.setIfInBounds_toArray, List.set_cons_zero, List.set_cons_succ])
        refine wpAnyH_take (i := 27) (oi := { dst := some 113, op := Op.indexAddr 22 (Operand.tmp 111) (Operand.tmp 112), type := 0, pos := "outright.go:302", after := #[{ on := 25, ground := Ground.data }, { on := 26, ground := Ground.data }, { on := 24, ground := Ground.guard }], guard := some (24, false) }) (v := ?_) rfl (by kernel_rfl) (by kernel_rfl) (by kernel_rfl) (fun _ _ _ h => h) (Or.inl ⟨by rfl, ?_⟩) (by assumption) ?_
        rotate_left
        · intro wz hSz; (try dsimp only at hSz); go_simp; all_goals (with_reducible rfl)
        (try simp only [Act.put, List.setIfInBounds_toArray, List.set_cons_zero, List.set_cons_succ])
        refine wpAnyH_take (i := 28) (oi := { dst := some 114, op := Op.load 3 (Operand.tmp 113), type := 3, pos := "outright.go:302", after := #[{ on := 27, ground := Ground.data }, { on := 24, ground := Ground.guard }], guard := some (24, false) }) (v := ?_) rfl (by kernel_rfl) (by kernel_rfl) (by kernel_rfl) (fun _ _ _ h => h) (Or.inl ⟨by rfl, ?_⟩) (by assumption) ?_
        rotate_left
        · intro wz hSz; (try dsimp only at hSz); go_simp; all_goals (with_reducible rfl)
        (try simp only [Act.put, List.setIfInBounds_toArray, List.set_cons_zero, List.set_cons_succ])
        refine wpAnyH_take (i := 29) (oi := { dst := some 115, op := Op.move (Operand.tmp 12), type := 3, pos := "outright.go:302", after := #[{ on := 24, ground := Ground.guard }], guard := some (24, false) }) (v := ?_) rfl (by kernel_rfl) (by kernel_rfl) (by kernel_rfl) (fun _ _ _ h => h) (Or.inl ⟨by rfl, ?_⟩) (by assumption) ?_
        rotate_left
        · intro wz hSz; (try dsimp only at hSz); go_simp; all_goals (with_reducible rfl)
        (try simp only [Act.put, List.setIfInBounds_toArray, List.set_cons_zero, List.set_cons_succ])
        refine wpAnyH_take (i := 30) (oi := { dst := some 116, op := Op.binOp BinOp.geq 3 (Operand.tmp 114) (Operand.tmp 115) 3, type := 4, pos := "outright.go:302", after := #[{ on := 28, ground := Ground.data }, { on := 29, ground := Ground.data }, { on := 24, ground := Ground.guard }], guard := some (24, false) }) (v := ?_) rfl (by kernel_rfl) (by kernel_rfl) (by kernel_rfl) (fun _ _ _ h => h) (Or.inl ⟨by rfl, ?_⟩) (by assumption) ?_
        rotate_left
        · intro wz hSz; (try dsimp only at hSz); go_simp; all_goals (with_reducible rfl)
        (try simp only [Act.put, List.setIfInBounds_toArray, List.set_cons_zero, List.set_cons_succ])
        refine wpAnyH_take (i := 31) (oi := { dst := some 117, op := Op.pick (Operand.tmp 110) (Operand.const (Value.bool true)) (Operand.tmp 116), type := 4, pos := "outright.go:302", after := #[{ on := 24, ground := Ground.data }, { on := 30, ground := Ground.data }, { on := 13, ground := Ground.guard }], guard := some (13, true) }) (v := ?_) rfl (by kernel_rfl) (by kernel_rfl) (by kernel_rfl) (fun _ _ _ h => h) (Or.inl ⟨by rfl, ?_⟩) (by assumption) ?_
        rotate_left
        · intro wz hSz; (try dsimp only at hSz); go_simp; all_goals (with_reducible rfl)
        (try simp only [Act.put, List.setIfInBounds_toArray, List.set_cons_zero, List.set_cons_succ])
        refine wpAnyH_take (i := 32) (oi := { dst := some 118, op := Op.move (Operand.tmp 117), type := 4, pos := "outright.go:302", after := #[{ on := 31, ground := Ground.data }, { on := 24, ground := Ground.chain }, { on := 13, ground := Ground.guard }], guard := some (13, true) }) (v := ?_) rfl (by kernel_rfl) (by kernel_rfl) (by kernel_rfl) (fun _ _ _ h => h) (Or.inl ⟨by rfl, ?_⟩) (by assumption) ?_
        rotate_left
        · intro wz hSz; (try dsimp only at hSz); go_simp; all_goals (with_reducible rfl)
        (try simp only [Act.put, List.setIfInBounds_toArray, List.set_cons_zero, List.set_cons_succ])
        refine wpAnyH_take (i := 33) (oi := { dst := some 119, op := Op.load 22 (Operand.tmp 14), type := 22, pos := "outright.go:302", after := #[{ on := 32, ground := Ground.guard }], guard := some (32, false) }) (v := ?_) rfl (by kernel_rfl) (by kernel_rfl) (by kernel_rfl) (fun _ _ _ h => h) (Or.inl ⟨by rfl, ?_⟩) (by assumption) ?_
        rotate_left
        · intro wz hSz; (try dsimp only at hSz); go_simp; all_goals (with_reducible rfl)
        (try simp only [Act.put, List.setIfInBounds_toArray, List.set_cons_zero, List.set_cons_succ])
        refine wpAnyH_take (i := 34) (oi := { dst := some 120, op := Op.move (Operand.tmp 18), type := 3, pos := "outright.go:302", after := #[{ on := 32, ground := Ground.guard }], guard := some (32, false) }) (v := ?_) rfl (by kernel_rfl) (by kernel_rfl) (by kernel_rfl) (fun _ _ _ h => h) (Or.inl ⟨by rfl, ?_⟩) (by assumption) ?_
        rotate_left
        · intro wz hSz; (try dsimp only at hSz); go_simp; all_goals (with_reducible rfl)
        (try simp only [Act.put, List.setIfInBounds_toArray, List.set_cons_zero, List.set_cons_succ])
        refine wpAnyH_take (i := 35) (oi := { dst := some 121, op := Op.indexAddr 22 (Operand.tmp 119) (Operand.tmp 120), type := 0, pos := "outright.go:302", after := #[{ on := 33, ground := Ground.data }, { on := 34, ground := Ground.data }, { on := 32, ground := Ground.guard }], guard := some (32, false) }) (v := ?_) rfl (by kernel_rfl) (by kernel_rfl) (by kernel_rfl) (fun _ _ _ h => h) (Or.inl ⟨by rfl, ?_⟩) (by assumption) ?_
        rotate_left
        · intro wz hSz; (try dsimp only at hSz); go_simp; all_goals (with_reducible rfl)
        (try simp only [Act.put, List.setIfInBounds_toArray, List.set_cons_zero, List.set_cons_succ])
        refine wpAnyH_take (i := 36) (oi := { dst := some 122, op := Op.load 3 (Operand.tmp 121), type := 3, pos := "outright.go:302", after := #[{ on := 35, ground := Ground.data }, { on := 32, ground := Ground.guard }], guard := some (32, false) }) (v := ?_) rfl (by kernel_rfl) (by kernel_rfl) (by kernel_rfl) (fun _ _ _ h => h) (Or.inl ⟨by rfl, ?_⟩) (by assumption) ?_
        rotate_left
        · intro wz hSz; (try dsimp only at hSz); go_simp; all_goals (with_reducible rfl)
        (try simp only [Act.put, List.setIfInBounds_toArray, List.set_cons_zero, List.set_cons_succ])
        refine wpAnyH_take (i := 37) (oi := { dst := some 123, op := Op.load 22 (Operand.tmp 14), type := 22, pos := "outright.go:302", after := #[{ on := 32, ground := Ground.guard }], guard := some (32, false) }) (v := ?_) rfl (by kernel_rfl) (by kernel_rfl) (by kernel_rfl) (fun _ _ _ h => h) (Or.inl ⟨by rfl, ?_⟩) (by assumption) ?_
        rotate_left
        · intro wz hSz; (try dsimp only at hSz); go_simp; all_goals (with_reducible rfl)
        (try simp only [Act.put, List.setIfInBounds_toArray, List.set_cons_zero, List.set_cons_succ])
        refine wpAnyH_take (i := 38) (oi := { dst := some 124, op := Op.move (Operand.tmp 18), type := 3, pos := "outright.go:302", after := #[{ on := 32, ground := Ground.guard }], guard := some (32, false) }) (v := ?_) rfl (by kernel_rfl) (by kernel_rfl) (by kernel_rfl) (fun _ _ _ h => h) (Or.inl ⟨by rfl, ?_⟩) (by assumption) ?_
        rotate_left
        · intro wz hSz; (try dsimp only at hSz); go_simp; all_goals (with_reducible rfl)
        (try simp only [Act.put, List.setIfInBounds_toArray, List.set_cons_zero, List.set_cons_succ])
        refine wpAnyH_take (i := 39) (oi := { dst := some 125, op := Op.binOp BinOp.sub 3 (Operand.tmp 124) (Operand.const (Value.int IntKind.i64 1)) 3, type := 3, pos := "outright.go:302", after := #[{ on := 38, ground := Ground.data }, { on := 32, ground := Ground.guard }], guard := some (32, false) }) (v := ?_) rfl (by kernel_rfl) (by kernel_rfl) (by kernel_rfl) (fun _ _ _ h => h) (Or.inl ⟨by rfl, ?_⟩) (by assumption) ?_
        rotate_left
        · intro wz hSz; (try dsimp only at hSz); go_simp; all_goals (with_reducible rfl)
        (try simp only [Act.put, List.setIfInBounds_toArray, List.set_cons_zero, List.set_cons_succ])
        refine wpAnyH_take (i := 40) (oi := { dst := some 126, op := Op.indexAddr 22 (Operand.tmp 123) (Operand.tmp 125), type := 0, pos := "outright.go:302", after := #[{ on := 37, ground := Ground.data }, { on := 39, ground := Ground.data }, { on := 32, ground := Ground.guard }], guard := some (32, false) }) (v := ?_) rfl (by kernel_rfl) (by kernel_rfl) (by kernel_rfl) (fun _ _ _ h => h) (Or.inl ⟨by rfl, ?_⟩) (by assumption) ?_
        rotate_left
        · intro wz hSz; (try dsimp only at hSz); go_simp; all_goals (with_reducible rfl)
        (try simp only [Act.put, List.setIfInBounds_toArray, List.set_cons_zero, List.set_cons_succ])
        refine wpAnyH_take (i := 41) (oi := { dst := some 127, op := Op.load 3 (Operand.tmp 126), type := 3, pos := "outright.go:302", after := #[{ on := 40, ground := Ground.data }, { on := 32, ground := Ground.guard }], guard := some (32, false) }) (v := ?_) rfl (by kernel_rfl) (by kernel_rfl) (by kernel_rfl) (fun _ _ _ h => h) (Or.inl ⟨by rfl, ?_⟩) (by assumption) ?_
        rotate_left
        · intro wz hSz; (try dsimp only at hSz); go_simp; all_goals (with_reducible rfl)
        (try simp only [Act.put, List.setIfInBounds_toArray, List.set_cons_zero, List.set_cons_succ])
        refine wpAnyH_take (i := 42) (oi := { dst := some 128, op := Op.binOp BinOp.eql 3 (Operand.tmp 122) (Operand.tmp 127) 3, type := 4, pos := "outright.go:302", after := #[{ on := 36, ground := Ground.data }, { on := 41, ground := Ground.data }, { on := 32, ground := Ground.guard }], guard := some (32, false) }) (v := ?_) rfl (by kernel_rfl) (by kernel_rfl) (by kernel_rfl) (fun _ _ _ h => h) (Or.inl ⟨by rfl, ?_⟩) (by assumption) ?_
        rotate_left
        · intro wz hSz; (try dsimp only at hSz); go_simp; all_goals (with_reducible rfl)
        (try simp only [Act.put, List.setIfInBounds_toArray, List.set_cons_zero, List.set_cons_succ])
        refine wpAnyH_take (i := 43) (oi := { dst := some 129, op := Op.pick (Operand.tmp 118) (Operand.const (Value.bool true)) (Operand.tmp 128), type := 4, pos := "outright.go:302", after := #[{ on := 32, ground := Ground.data }, { on := 42, ground := Ground.data }, { on := 13, ground := Ground.guard }], guard := some (13, true) }) (v := ?_) rfl (by kernel_rfl) (by kernel_rfl) (by kernel_rfl) (fun _ _ _ h => h) (Or.inl ⟨by rfl, ?_⟩) (by assumption) ?_
        rotate_left
        · intro wz hSz; (try dsimp only at hSz); go_simp; all_goals (with_reducible rfl)
        (try simp only [Act.put, List.setIfInBounds_toArray, List.set_cons_zero, List.set_cons_succ])
        refine wpAnyH_take (i := 44) (oi := { dst := some 130, op := Op.pick (Operand.tmp 99) (Operand.tmp 129) (Operand.const (Value.bool false)), type := 4, pos := "outright.go:302", after := #[{ on := 13, ground := Ground.data }, { on := 43, ground := Ground.data }, { on := 10, ground := Ground.guard }], guard := some (10, false) }) (v := ?_) rfl (by kernel_rfl) (by kernel_rfl) (by kernel_rfl) (fun _ _ _ h => h) (Or.inl ⟨by rfl, ?_⟩) (by assumption) ?_
        rotate_left
        · intro wz hSz; (try dsimp only at hSz); go_simp; all_goals (with_reducible rfl)
        (try simp only [Act.put, List.setIfInBounds_toArray, List.set_cons_zero, List.set_cons_succ])
        refine wpAnyH_take (i := 45) (oi := { dst := some 131, op := Op.pick (Operand.tmp 96) (Operand.const (Value.bool true)) (Operand.tmp 130), type := 4, pos := "outright.go:302", after := #[{ on := 10, ground := Ground.data }, { on := 44, ground := Ground.data }], guard := none }) (v := ?_) rfl (by kernel_rfl) (by kernel_rfl) (by kernel_rfl) (fun _ _ _ h => h) (Or.inl ⟨by rfl, ?_⟩) (by assumption) ?_
        rotate_left
        · intro wz hSz; (try dsimp only at hSz); go_simp; all_goals (with_reducible rfl)
        (try simp only [Act.put, List.setIfInBounds_toArray, List.set_cons_zero, List.set_cons_succ])
        refine wpAnyH_done (by kernel_rfl) ?_ _
        refine NoPanic.normal ?_
        clear hHeld
        go_wp2_with fail
        go_roundg (gk - 1)
        case measure => go_light; omega
        case rel => exact ⟨k + 1 + 1, by omega, by go_num, belT hbx.out ((Below.refl _ _).drew)⟩
    · obtain rfl : gk = 0 := by omega
      have t3 : ¬ (i : Int) < (PL.length : Int) := by omega
      go_wp2_with fail
      clear u0 u1 t3
      go_loopg [21] K.length (fun gk s21 wr => ∃ i : Nat, i + gk = K.length ∧ s21 = .int .i64 (i : Int) ∧ Hid (Below A.heap.size A wr))
      case atStart => exact ⟨0, by omega, rfl, hbw.out⟩
      case round =>
        clear hbw hi hlt
        obtain ⟨gko, rfl⟩ : ∃ X, X = gk := ⟨_, rfl⟩
        obtain ⟨i, hi, rfl, hbv⟩ := hrel
        obtain ⟨kl, kb, kc'⟩ := hKA.out
        by_cases hlt : i < K.length
        · have s1 : (i : Int) < (K.length : Int) := by omega
          have s0 : (0 : Int) ≤ (i : Int) := by omega
          obtain ⟨gK, oK, rfl, hgK, kp⟩ := kc'.resolve_left (by intro e; rw [e] at hlt; simp at hlt)
          have kx := (hbv.out.cell (p := ⟨gK, _, none⟩) hgK).trans (kp i hlt)
          have kb1 := kb i hlt
          clear kb kp
          generalize K[i] = kx0 at *
          obtain ⟨_, u1, _⟩ := id (hA1.below hbv.out)
          obtain ⟨_, u0, _⟩ := id (HA0.below hbv.out)
          have hP1' := fun j (h : j < PL.length) => (hbv.out.cell (p := ⟨g1, j, none⟩) hg1).trans (hP1.out j h)
          have hP1w : Hid _ := hP1'
          clear hP1'
          go_wp2_with (go_at_call 5; (with_reducible refine (below_any kx0 _ _ kb1.1 kb1.2 (by omega) (by omega)).mono ?_); rintro e w6 ⟨⟨r, rfl, r0, r1⟩, rfl⟩)
          go_loopg [23] (PL.length - 1) (fun gk s23 wx => ∃ k : Nat, k + 1 + gk = PL.length ∧ s23 = .int .i64 (k : Int) ∧ wr = wx ∧ Hid (∃ h : k < PL.length, PL[k].1 ≤ f + r))
          case atStart => exact ⟨0, by omega, rfl, rfl, hne0, by rw [hfirst]; omega⟩
          case round =>
            obtain ⟨k, hk, rfl, rfl, hkm⟩ := hrel
            obtain ⟨hkl, hkle⟩ := hkm.out
            have hklo := hPw'.out.lo k hkl
            have hkle' : Hid _ := hkle
            clear hkle
            have x0 : (0 : Int) ≤ (k : Int) := by omega
            have x1 : (k : Int) < (PL.length : Int) := by omega
            have x2 : (0 : Int) ≤ (k : Int) + 1 := by omega
            by_cases hl2 : k + 1 < PL.length
            · have x3 : (k : Int) + 1 < (PL.length : Int) := by omega
              have pk := hP1w.out (k + 1) hl2
              obtain ⟨hup, hdf⟩ := hPw'.out.up k hl2
              obtain ⟨hh1, hh2⟩ := hPw'.out.hi (k + 1) hl2
              by_cases hle : PL[k + 1].1 ≤ f + r
              · have hres : Hid (∃ h : k + 1 < PL.length, PL[k + 1].1 ≤ f + r) := ⟨hl2, hle⟩
                generalize PL[k + 1].1 = y1 at *
                go_wp2_with fail
                go_roundg (gk - 1)
                case measure => go_light; omega
                case rel => exact ⟨k + 1, by omega, by go_num, rfl, hres.out⟩
              · have hst := hPw'.out.stay k hl2
                have hs' : Hid (slF t (f + r) = PL[k].2) := hst (f + r) hkle'.out (by omega)
                have hst' : Hid (∀ x, f + r ≤ x → x < PL[k + 1].1 → slF t x = slF t (f + r)) := fun x hx hx2 => by rw [hs'.out]; exact hst x (by have := hkle'.out; omega) hx2
                have hdq : Hid (slF t PL[k + 1].1 ≠ slF t (f + r)) := by show _ ≠ _; rw [hs'.out, ← hh2]; exact hdf
                have hh2' : Hid (slF t PL[k + 1].1 = PL[k + 1].2) := hh2.symm
                clear hst hdf hh2
                have hC2 : Hid (∀ W, Below A.heap.size A W → W.cell? ⟨g1, k + 1, none⟩ = some (.int .i64 PL[k + 1].1) ∧ W.cell? ⟨g2, k + 1, none⟩ = some (.int .i64 PL[k + 1].2) ∧ W.cell? ⟨g2, k, none⟩ = some (.int .i64 PL[k].2)) := fun W hW => ⟨(hW.cell (p := ⟨g1, k + 1, none⟩) hg1).trans (hP1.out (k + 1) hl2), (hW.cell (p := ⟨g2, k + 1, none⟩) hg2).trans (hP2.out (k + 1) hl2), (hW.cell (p := ⟨g2, k, none⟩) hg2).trans (hP2.out k hkl)⟩
                have k7 := fun W hW => c7.out (f + r) W (by omega) (by omega) hW
                rw [hs'.out] at k7
                by_cases hnr : PL[k + 1].1 - (f + r) ≤ 20160
                · obtain ⟨n1, n2⟩ := nx_near he (m := f + r) (q := PL[k + 1].1) (by omega) (by omega) hnr (by omega) hst'.out hdq.out
                  rw [hh2'.out] at n2
                  have k8 := fun W hW => c8.out (f + r) W (by omega) (by omega) hW
                  rw [n1, n2] at k8
                  have k8' : Hid _ := k8
                  have k7' : Hid _ := k7
                  clear k8 k7 n1 n2 hs' hst' hdq hh2'
                  generalize PL[k + 1].1 = y1 at *
                  generalize PL[k + 1].2 = z1 at *
                  generalize PL[k].2 = z0 at *
                  go_wp2_with (first
                    | (go_at_call 7; (with_reducible refine (k7'.out _ hbv.out).mono ?_); rintro e w7 ⟨rfl, hb7⟩; have hb7A := belT hbv.out hb7; obtain ⟨_, v0, _⟩ := id (HA0.below hb7A))
                    | (go_at_call 8; (with_reducible refine (k8'.out _ hb7A).mono ?_); rintro e w8 ⟨rfl, hb8⟩; have hb8A := belT hb7A hb8; obtain ⟨_, v1, _⟩ := id (hA1.below hb8A); obtain ⟨_, v2, _⟩ := id (hA2.below hb8A); obtain ⟨c1, c2, c3⟩ := hC2.out _ hb8A))
                  go_roundg (gko - 1)
                  case measure => go_light; omega
                  case rel => exact ⟨i + 1, by omega, by go_num, hb8A⟩
                · have hfar := nx_far he (m := f + r) (e := PL[k + 1].1) (by omega) (by omega) hst'.out
                  obtain ⟨n1, n2⟩ : nxM t (f + r) < 0 ∧ nxS t (f + r) = slF t (f + r) := hfar.resolve_right (by omega)
                  rw [hs'.out] at n2
                  have k8 := fun W hW => c8.out (f + r) W (by omega) (by omega) hW
                  rw [n2] at k8
                  clear n2 hfar hst' hdq hh2' hs'
                  generalize nxM t (f + r) = nm at *
                  have k8' : Hid _ := k8
                  have k7' : Hid _ := k7
                  clear k8 k7
                  generalize PL[k + 1].1 = y1 at *
                  generalize PL[k + 1].2 = z1 at *
                  generalize PL[k].2 = z0 at *
                  have n3 : ¬ 0 ≤ nm := by omega
                  go_wp2_with (first
                    | (go_at_call 7; (with_reducible refine (k7'.out _ hbv.out).mono ?_); rintro e w7 ⟨rfl, hb7⟩; have hb7A := belT hbv.out hb7; obtain ⟨_, v0, _⟩ := id (HA0.below hb7A))
                    | (go_at_call 8; (with_reducible refine (k8'.out _ hb7A).mono ?_); rintro e w8 ⟨rfl, hb8⟩; have hb8A := belT hb7A hb8; obtain ⟨_, v1, _⟩ := id (hA1.below hb8A); obtain ⟨_, v2, _⟩ := id (hA2.below hb8A); obtain ⟨c1, c2, c3⟩ := hC2.out _ hb8A))
                  go_roundg (gko - 1)
                  case measure => go_light; omega
                  case rel => exact ⟨i + 1, by omega, by go_num, hb8A⟩
            · have hle2 : k + 1 = PL.length := by omega
              have x3 : ¬ (k : Int) + 1 < (PL.length : Int) := by omega
              have hst := hPw'.out.last k hkl hle2
              have hs' : Hid (slF t (f + r) = PL[k].2) := hst (f + r) hkle'.out (by omega)
              have hst' : Hid (∀ x, f + r ≤ x → x < f + 1 + g → slF t x = slF t (f + r)) := fun x hx hx2 => by rw [hs'.out]; exact hst x (by have := hkle'.out; omega) hx2
              clear hst
              have hC2 : Hid (∀ W, Below A.heap.size A W → W.cell? ⟨g2, k, none⟩ = some (.int .i64 PL[k].2)) := fun W hW => (hW.cell (p := ⟨g2, k, none⟩) hg2).trans (hP2.out k hkl)
              have k7 := fun W hW => c7.out (f + r) W (by omega) (by omega) hW
              rw [hs'.out] at k7
              have hfar := nx_far he (m := f + r) (e := f + 1 + g) (by omega) (by omega) hst'.out
              rw [hs'.out] at hfar
              have k8 := fun W hW => c8.out (f + r) W (by omega) (by omega) hW
              generalize nxM t (f + r) = nm at *
              generalize nxS t (f + r) = ns at *
              have k8' : Hid _ := k8
              have k7' : Hid _ := k7
              clear k8 k7 hst' hs'
              generalize PL[k].2 = z0 at *
              rcases hfar with ⟨n1, rfl⟩ | ⟨n1, n2, _⟩
              · have n3 : ¬ 0 ≤ nm := by omega
                go_wp2_with (first
                  | (go_at_call 7; (with_reducible refine (k7'.out _ hbv.out).mono ?_); rintro e w7 ⟨rfl, hb7⟩; have hb7A := belT hbv.out hb7; obtain ⟨_, v0, _⟩ := id (HA0.below hb7A))
                  | (go_at_call 8; (with_reducible refine (k8'.out _ hb7A).mono ?_); rintro e w8 ⟨rfl, hb8⟩; have hb8A := belT hb7A hb8; obtain ⟨_, v1, _⟩ := id (hA1.below hb8A); obtain ⟨_, v2, _⟩ := id (hA2.below hb8A); have c3 := hC2.out _ hb8A))
                go_roundg (gko - 1)
                case measure => go_light; omega
                case rel => exact ⟨i + 1, by omega, by go_num, hb8A⟩
              · have n3 : ¬ nm < f + 1 + g := by omega
                have n4 : ¬ nm < 0 := by omega
                go_wp2_with (first
                  | (go_at_call 7; (with_reducible refine (k7'.out _ hbv.out).mono ?_); rintro e w7 ⟨rfl, hb7⟩; have hb7A := belT hbv.out hb7; obtain ⟨_, v0, _⟩ := id (HA0.below hb7A))
                  | (go_at_call 8; (with_reducible refine (k8'.out _ hb7A).mono ?_); rintro e w8 ⟨rfl, hb8⟩; have hb8A := belT hb7A hb8; obtain ⟨_, v1, _⟩ := id (hA1.below hb8A); obtain ⟨_, v2, _⟩ := id (hA2.below hb8A); have c3 := hC2.out _ hb8A))
                go_roundg (gko - 1)
                case measure => go_light; omega
                case rel => exact ⟨i + 1, by omega, by go_num, hb8A⟩
        · obtain rfl : gko = 0 := by omega
          have s1 : ¬ (i : Int) < (K.length : Int) := by omega
          go_wp2_with fail
          have b1 : Below w4.heap.size wr (wr.putObj w4.heap.size (.deferred none)) := below_put (.refl _ wr) (.deferred none) (Nat.le_refl _)
          have hDw : wr.heap[w4.heap.size]? = some (.deferred (some [])) := (hbv.out.block _ hD'.out.2).trans hD'.out.1
          have hw4 : w.heap.size ≤ w4.heap.size := by omega
          have hbf := (hbA.out.trans (hbv.out.mono hbA.out.size)).trans (b1.mono hw4)
          refine ⟨by simp, .inl ⟨_, _, rfl, run_takeDeferred hDw, ?_⟩⟩
          exact ⟨_, results_tmp rfl _ _ _, rfl, hbf⟩
end Go.Proofs.Ytddphepgcihdbaa
