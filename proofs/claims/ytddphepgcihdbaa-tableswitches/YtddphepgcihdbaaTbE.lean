import Derived.Test.YtddphepgcihdbaaTbD
namespace Go.Proofs.Ytddphepgcihdbaa
open Go.RowKit
set_option linter.unusedVariables false
set_option linter.unusedSimpArgs false

theorem TR.a56 {w : World} {t : Tt} {aD aS aX aH : Option Addr} {cD cS cX cH : Nat} (hR : TR w t (.slice aD t.D.length cD) (.slice aS t.S.length cS) (.slice aX t.X.length cX) (.slice aH t.H.length cH))  : Calls Try.prog 47 #[.slice aD t.D.length cD, .func (.func 48) #[] #[]] w fun e w' => e = .returned (.bool (t.D.all fun x => nmB x.name)) ∧ Below w.heap.size w w' :=
  allD56 t.D aD cD (fun x => nmB x.name) w hR.d.ln hR.dl (fun W hW i hi => k56 t.D[i] W (hR.ndl _ (List.getElem_mem hi)))
theorem TR.a57 {w : World} {t : Tt} {aD aS aX aH : Option Addr} {cD cS cX cH : Nat} (hR : TR w t (.slice aD t.D.length cD) (.slice aS t.S.length cS) (.slice aX t.X.length cX) (.slice aH t.H.length cH))  : Calls Try.prog 47 #[.slice aD t.D.length cD, .func (.func 49) #[] #[]] w fun e w' => e = .returned (.bool (t.D.all fun x => decide (x.rows.length ≤ 48))) ∧ Below w.heap.size w w' :=
  allD57 t.D aD cD (fun x => decide (x.rows.length ≤ 48)) w hR.d.ln hR.dl (fun W hW i hi => k57 t.D[i] W ((hR.r _ (List.getElem_mem hi)).below hW) (hR.rl _ (List.getElem_mem hi)))
theorem TR.a58 {w : World} {t : Tt} {aD aS aX aH : Option Addr} {cD cS cX cH : Nat} (hR : TR w t (.slice aD t.D.length cD) (.slice aS t.S.length cS) (.slice aX t.X.length cX) (.slice aH t.H.length cH))  : Calls Try.prog 47 #[.slice aD t.D.length cD, .func (.func 50) #[] #[]] w fun e w' => e = .returned (.bool (t.D.all fun x => decide (0 < x.rows.length))) ∧ Below w.heap.size w w' :=
  allD58 t.D aD cD (fun x => decide (0 < x.rows.length)) w hR.d.ln hR.dl (fun W hW i hi => k58 t.D[i] W ((hR.r _ (List.getElem_mem hi)).below hW) (hR.rl _ (List.getElem_mem hi)))
theorem TR.a63 {w : World} {t : Tt} {aD aS aX aH : Option Addr} {cD cS cX cH : Nat} (hR : TR w t (.slice aD t.D.length cD) (.slice aS t.S.length cS) (.slice aX t.X.length cX) (.slice aH t.H.length cH))  : Calls Try.prog 47 #[.slice aD t.D.length cD, .func (.func 55) #[] #[]] w fun e w' => e = .returned (.bool (t.D.all fun x => x.rows.all rwB)) ∧ Below w.heap.size w w' :=
  allD63 t.D aD cD (fun x => x.rows.all rwB) w hR.d.ln hR.dl (fun W hW i hi => k63 t.D[i] W ((hR.r _ (List.getElem_mem hi)).below hW) (hR.rl _ (List.getElem_mem hi)))
theorem TR.a79 {w : World} {t : Tt} {aD aS aX aH : Option Addr} {cD cS cX cH : Nat} (hR : TR w t (.slice aD t.D.length cD) (.slice aS t.S.length cS) (.slice aX t.X.length cX) (.slice aH t.H.length cH))  : Calls Try.prog 47 #[.slice aD t.D.length cD, .func (.func 71) #[] #[]] w fun e w' => e = .returned (.bool (t.D.all fun x => riB (x.rows.map (·.m)))) ∧ Below w.heap.size w w' :=
  allD79 t.D aD cD (fun x => riB (x.rows.map (·.m))) w hR.d.ln hR.dl (fun W hW i hi => k79 t.D[i] W ((hR.r _ (List.getElem_mem hi)).below hW) (hR.rl _ (List.getElem_mem hi)))
theorem TR.a67 {w : World} {t : Tt} {aD aS aX aH : Option Addr} {cD cS cX cH : Nat} (hR : TR w t (.slice aD t.D.length cD) (.slice aS t.S.length cS) (.slice aX t.X.length cX) (.slice aH t.H.length cH))  : Calls Try.prog 58 #[.slice aH t.H.length cH, .func (.func 59) #[] #[]] w fun e w' => e = .returned (.bool (t.H.all fun x => inB x.plus (-720) 840)) ∧ Below w.heap.size w w' :=
  allH67 t.H aH cH (fun x => inB x.plus (-720) 840) w hR.h.ln hR.hl (fun W hW i hi => k67 t.H[i] W)
theorem TR.a74 {w : World} {t : Tt} {aD aS aX aH : Option Addr} {cD cS cX cH : Nat} (hR : TR w t (.slice aD t.D.length cD) (.slice aS t.S.length cS) (.slice aX t.X.length cX) (.slice aH t.H.length cH))  : Calls Try.prog 58 #[.slice aH t.H.length cH, .func (.func 66) #[] #[]] w fun e w' => e = .returned (.bool (t.H.all fun x => inB x.m 0 210379679)) ∧ Below w.heap.size w w' :=
  allH74 t.H aH cH (fun x => inB x.m 0 210379679) w hR.h.ln hR.hl (fun W hW i hi => k74 t.H[i] W)
theorem TR.a70 {w : World} {t : Tt} {aD aS aX aH : Option Addr} {cD cS cX cH : Nat} (hR : TR w t (.slice aD t.D.length cD) (.slice aS t.S.length cS) (.slice aX t.X.length cX) (.slice aH t.H.length cH))  : Calls Try.prog 61 #[.slice aS t.S.length cS, .func (.func 62) #[] #[]] w fun e w' => e = .returned (.bool (t.S.all snB)) ∧ Below w.heap.size w w' :=
  allS70 t.S aS cS (snB) w hR.s.ln hR.sl (fun W hW i hi => k70 t.S[i] W)
theorem TR.a73 {w : World} {t : Tt} {aD aS aX aH : Option Addr} {cD cS cX cH : Nat} (hR : TR w t (.slice aD t.D.length cD) (.slice aS t.S.length cS) (.slice aX t.X.length cX) (.slice aH t.H.length cH))  : Calls Try.prog 64 #[.slice aX t.X.length cX, .func (.func 65) #[] #[]] w fun e w' => e = .returned (.bool (t.X.all fun x => dayB x.day)) ∧ Below w.heap.size w w' :=
  allX73 t.X aX cX (fun x => dayB x.day) w hR.x.ln hR.xl (fun W hW i hi => k73 t.X[i] W)
theorem TR.a77 {w : World} {t : Tt} {aD aS aX aH : Option Addr} {cD cS cX cH : Nat} (hR : TR w t (.slice aD t.D.length cD) (.slice aS t.S.length cS) (.slice aX t.X.length cX) (.slice aH t.H.length cH)) (n : Nat) (a : Option Addr) (c q tb : Nat) (hq : w.cell? ⟨q, 0, none⟩ = some (.func (.func 67) #[] #[.pointer (some ⟨tb, 0, none⟩)])) (h1 : w.cell? ⟨tb, 1, none⟩ = some (.slice a n c)) (hn : n ≤ 3518437208781) : Calls Try.prog 61 #[.slice aS t.S.length cS, .func (.func 69) #[] #[.pointer (some ⟨q, 0, none⟩)]] w fun e w' => e = .returned (.bool (t.S.all fun x => x.wk.all (kdB n))) ∧ Below w.heap.size w w' :=
  allS77 t.S aS cS q (fun x => x.wk.all (kdB n)) w hR.s.ln hR.sl (fun W hW i hi => k77 n a c q tb t.S[i] W ((hW.cell (p := ⟨q, 0, none⟩) (cell_ltF hq)).trans hq) ((hW.cell (p := ⟨tb, 1, none⟩) (cell_ltF h1)).trans h1) hn)
theorem TR.a78 {w : World} {t : Tt} {aD aS aX aH : Option Addr} {cD cS cX cH : Nat} (hR : TR w t (.slice aD t.D.length cD) (.slice aS t.S.length cS) (.slice aX t.X.length cX) (.slice aH t.H.length cH)) (n : Nat) (a : Option Addr) (c q tb : Nat) (hq : w.cell? ⟨q, 0, none⟩ = some (.func (.func 67) #[] #[.pointer (some ⟨tb, 0, none⟩)])) (h1 : w.cell? ⟨tb, 1, none⟩ = some (.slice a n c)) (hn : n ≤ 3518437208781) : Calls Try.prog 64 #[.slice aX t.X.length cX, .func (.func 70) #[] #[.pointer (some ⟨q, 0, none⟩)]] w fun e w' => e = .returned (.bool (t.X.all fun x => kdB n x.kind)) ∧ Below w.heap.size w w' :=
  allX78 t.X aX cX q (fun x => kdB n x.kind) w hR.x.ln hR.xl (fun W hW i hi => k78 n a c q tb t.X[i] W ((hW.cell (p := ⟨q, 0, none⟩) (cell_ltF hq)).trans hq) ((hW.cell (p := ⟨tb, 1, none⟩) (cell_ltF h1)).trans h1) hn)
set_option maxRecDepth 100000 in
set_option maxHeartbeats 4000000 in
theorem hasClocks_any (t : Tt) (aD aS aX aH : Option Addr) (cD cS cX cH : Nat) (w : World) (hR : TR w t (.slice aD t.D.length cD) (.slice aS t.S.length cS) (.slice aX t.X.length cX) (.slice aH t.H.length cH)) : Calls Try.prog 31 #[.agg #[.string t.nm, .slice aD t.D.length cD, .int .i64 t.w0, .int .i64 t.w1, .int .i64 t.w2, .int .i64 t.w3, .int .i64 t.w4, .int .i64 t.w5, .int .i64 t.w6, .slice aS t.S.length cS, .slice aX t.X.length cX, .slice aH t.H.length cH]] w fun e w' => e = .returned (.bool t.clkB) ∧ Below w.heap.size w w' := by
  have c0 := fun W (hb : Below w.heap.size w W) => (hR.below hb).a63
  have c1 := fun W (hb : Below w.heap.size w W) => (hR.below hb).a67
  unfold Tt.clkB
  generalize (t.D.all fun x => x.rows.all rwB) = b0 at *
  generalize (t.H.all fun x => inB x.plus (-720) 840) = b1 at *
  clear hR
  cases b0 with
  | false =>
    go_enter Try.func31, Try.ntmps31
    go_wp2_with (first | (go_at_call 47; (with_reducible refine (c0 _ bel1).mono ?_); rintro e w0 ⟨rfl, hb0⟩; have B0 := ((Has.new w #[.string t.nm, .slice aD t.D.length cD, .int .i64 t.w0, .int .i64 t.w1, .int .i64 t.w2, .int .i64 t.w3, .int .i64 t.w4, .int .i64 t.w5, .int .i64 t.w6, .slice aS t.S.length cS, .slice aX t.X.length cX, .slice aH t.H.length cH] 29 rfl).below hb0); have hb0' := (belT bel1 hb0); obtain ⟨_, q0, _⟩ := id B0))
    go_ret
    exact ⟨by first | rfl | simp, hb0'⟩
  | true =>
    go_enter Try.func31, Try.ntmps31
    go_wp2_with (first | (go_at_call 47; (with_reducible refine (c0 _ bel1).mono ?_); rintro e w0 ⟨rfl, hb0⟩; have B0 := ((Has.new w #[.string t.nm, .slice aD t.D.length cD, .int .i64 t.w0, .int .i64 t.w1, .int .i64 t.w2, .int .i64 t.w3, .int .i64 t.w4, .int .i64 t.w5, .int .i64 t.w6, .slice aS t.S.length cS, .slice aX t.X.length cX, .slice aH t.H.length cH] 29 rfl).below hb0); have hb0' := (belT bel1 hb0); obtain ⟨_, q0, _⟩ := id B0) | (go_at_call 58; (with_reducible refine (c1 _ hb0').mono ?_); rintro e w1 ⟨rfl, hb1⟩; have B1 := (B0.below hb1); have hb1' := (belT hb0' hb1); obtain ⟨_, q1, _⟩ := id B1))
    go_ret
    exact ⟨by first | rfl | simp, hb1'⟩
set_option maxRecDepth 100000 in
set_option maxHeartbeats 4000000 in
theorem hasDates_any (t : Tt) (aD aS aX aH : Option Addr) (cD cS cX cH : Nat) (w : World) (hR : TR w t (.slice aD t.D.length cD) (.slice aS t.S.length cS) (.slice aX t.X.length cX) (.slice aH t.H.length cH)) : Calls Try.prog 32 #[.agg #[.string t.nm, .slice aD t.D.length cD, .int .i64 t.w0, .int .i64 t.w1, .int .i64 t.w2, .int .i64 t.w3, .int .i64 t.w4, .int .i64 t.w5, .int .i64 t.w6, .slice aS t.S.length cS, .slice aX t.X.length cX, .slice aH t.H.length cH]] w fun e w' => e = .returned (.bool t.datB) ∧ Below w.heap.size w w' := by
  have c0 := fun W (hb : Below w.heap.size w W) => (hR.below hb).a70
  have c1 := fun W (hb : Below w.heap.size w W) => (hR.below hb).a73
  have c2 := fun W (hb : Below w.heap.size w W) => (hR.below hb).a74
  unfold Tt.datB
  generalize (t.S.all snB) = b0 at *
  generalize (t.X.all fun x => dayB x.day) = b1 at *
  generalize (t.H.all fun x => inB x.m 0 210379679) = b2 at *
  clear hR
  cases b0 with
  | false =>
    go_enter Try.func32, Try.ntmps32
    go_wp2_with (first | (go_at_call 61; (with_reducible refine (c0 _ bel1).mono ?_); rintro e w0 ⟨rfl, hb0⟩; have B0 := ((Has.new w #[.string t.nm, .slice aD t.D.length cD, .int .i64 t.w0, .int .i64 t.w1, .int .i64 t.w2, .int .i64 t.w3, .int .i64 t.w4, .int .i64 t.w5, .int .i64 t.w6, .slice aS t.S.length cS, .slice aX t.X.length cX, .slice aH t.H.length cH] 29 rfl).below hb0); have hb0' := (belT bel1 hb0); obtain ⟨_, q0, _⟩ := id B0))
    go_ret
    exact ⟨by first | rfl | simp, hb0'⟩
  | true =>
    cases b1 with
    | false =>
      go_enter Try.func32, Try.ntmps32
      go_wp2_with (first | (go_at_call 61; (with_reducible refine (c0 _ bel1).mono ?_); rintro e w0 ⟨rfl, hb0⟩; have B0 := ((Has.new w #[.string t.nm, .slice aD t.D.length cD, .int .i64 t.w0, .int .i64 t.w1, .int .i64 t.w2, .int .i64 t.w3, .int .i64 t.w4, .int .i64 t.w5, .int .i64 t.w6, .slice aS t.S.length cS, .slice aX t.X.length cX, .slice aH t.H.length cH] 29 rfl).below hb0); have hb0' := (belT bel1 hb0); obtain ⟨_, q0, _⟩ := id B0) | (go_at_call 64; (with_reducible refine (c1 _ hb0').mono ?_); rintro e w1 ⟨rfl, hb1⟩; have B1 := (B0.below hb1); have hb1' := (belT hb0' hb1); obtain ⟨_, q1, _⟩ := id B1))
      go_ret
      exact ⟨by first | rfl | simp, hb1'⟩
    | true =>
      go_enter Try.func32, Try.ntmps32
      go_wp2_with (first | (go_at_call 61; (with_reducible refine (c0 _ bel1).mono ?_); rintro e w0 ⟨rfl, hb0⟩; have B0 := ((Has.new w #[.string t.nm, .slice aD t.D.length cD, .int .i64 t.w0, .int .i64 t.w1, .int .i64 t.w2, .int .i64 t.w3, .int .i64 t.w4, .int .i64 t.w5, .int .i64 t.w6, .slice aS t.S.length cS, .slice aX t.X.length cX, .slice aH t.H.length cH] 29 rfl).below hb0); have hb0' := (belT bel1 hb0); obtain ⟨_, q0, _⟩ := id B0) | (go_at_call 64; (with_reducible refine (c1 _ hb0').mono ?_); rintro e w1 ⟨rfl, hb1⟩; have B1 := (B0.below hb1); have hb1' := (belT hb0' hb1); obtain ⟨_, q1, _⟩ := id B1) | (go_at_call 58; (with_reducible refine (c2 _ hb1').mono ?_); rintro e w2 ⟨rfl, hb2⟩; have B2 := (B1.below hb2); have hb2' := (belT hb1' hb2); obtain ⟨_, q2, _⟩ := id B2))
      go_ret
      exact ⟨by first | rfl | simp, hb2'⟩
set_option maxRecDepth 100000 in
set_option maxHeartbeats 4000000 in
theorem isInOrder_any (t : Tt) (aD aS aX aH : Option Addr) (cD cS cX cH : Nat) (w : World) (hR : TR w t (.slice aD t.D.length cD) (.slice aS t.S.length cS) (.slice aX t.X.length cX) (.slice aH t.H.length cH)) : Calls Try.prog 34 #[.agg #[.string t.nm, .slice aD t.D.length cD, .int .i64 t.w0, .int .i64 t.w1, .int .i64 t.w2, .int .i64 t.w3, .int .i64 t.w4, .int .i64 t.w5, .int .i64 t.w6, .slice aS t.S.length cS, .slice aX t.X.length cX, .slice aH t.H.length cH]] w fun e w' => e = .returned (.bool t.ordB) ∧ Below w.heap.size w w' := by
  have c0 := fun W (hb : Below w.heap.size w W) => (hR.below hb).a79
  have c1 := fun W (hb : Below w.heap.size w W) => riseH t.H aH cH W (hR.below hb).h.ln hR.hl
  unfold Tt.ordB
  generalize (t.D.all fun x => riB (x.rows.map (·.m))) = b0 at *
  generalize (riB (t.H.map (·.m))) = b1 at *
  clear hR
  cases b0 with
  | false =>
    go_enter Try.func34, Try.ntmps34
    go_wp2_with (first | (go_at_call 47; (with_reducible refine (c0 _ bel1).mono ?_); rintro e w0 ⟨rfl, hb0⟩; have B0 := ((Has.new w #[.string t.nm, .slice aD t.D.length cD, .int .i64 t.w0, .int .i64 t.w1, .int .i64 t.w2, .int .i64 t.w3, .int .i64 t.w4, .int .i64 t.w5, .int .i64 t.w6, .slice aS t.S.length cS, .slice aX t.X.length cX, .slice aH t.H.length cH] 29 rfl).below hb0); have hb0' := (belT bel1 hb0); obtain ⟨_, q0, _⟩ := id B0))
    go_ret
    exact ⟨by first | rfl | simp, hb0'⟩
  | true =>
    go_enter Try.func34, Try.ntmps34
    go_wp2_with (first | (go_at_call 47; (with_reducible refine (c0 _ bel1).mono ?_); rintro e w0 ⟨rfl, hb0⟩; have B0 := ((Has.new w #[.string t.nm, .slice aD t.D.length cD, .int .i64 t.w0, .int .i64 t.w1, .int .i64 t.w2, .int .i64 t.w3, .int .i64 t.w4, .int .i64 t.w5, .int .i64 t.w6, .slice aS t.S.length cS, .slice aX t.X.length cX, .slice aH t.H.length cH] 29 rfl).below hb0); have hb0' := (belT bel1 hb0); obtain ⟨_, q0, _⟩ := id B0) | (go_at_call 74; (with_reducible refine (c1 _ hb0').mono ?_); rintro e w1 ⟨rfl, hb1⟩; have B1 := (B0.below hb1); have hb1' := (belT hb0' hb1); obtain ⟨_, q1, _⟩ := id B1))
    go_ret
    exact ⟨by first | rfl | simp, hb1'⟩
set_option maxRecDepth 100000 in
set_option maxHeartbeats 4000000 in
theorem hasNames_any (t : Tt) (aD aS aX aH : Option Addr) (cD cS cX cH : Nat) (w : World) (hR : TR w t (.slice aD t.D.length cD) (.slice aS t.S.length cS) (.slice aX t.X.length cX) (.slice aH t.H.length cH)) : Calls Try.prog 27 #[.agg #[.string t.nm, .slice aD t.D.length cD, .int .i64 t.w0, .int .i64 t.w1, .int .i64 t.w2, .int .i64 t.w3, .int .i64 t.w4, .int .i64 t.w5, .int .i64 t.w6, .slice aS t.S.length cS, .slice aX t.X.length cX, .slice aH t.H.length cH]] w fun e w' => e = .returned (.bool t.nmsB) ∧ Below w.heap.size w w' := by
  have c0 := fun W => isName_any t.nm W hR.nml
  have c1 := fun W (hb : Below w.heap.size w W) => (hR.below hb).a56
  unfold Tt.nmsB
  generalize nmB t.nm = b0 at *
  generalize (t.D.all fun x => nmB x.name) = b1 at *
  clear hR
  cases b0 with
  | false =>
    go_enter Try.func27, Try.ntmps27
    go_wp2_with (go_at_call 46; (with_reducible refine (c0 _).mono ?_); rintro e w' ⟨rfl, rfl⟩)
    go_ret
    exact ⟨rfl, bel1⟩
  | true =>
    go_enter Try.func27, Try.ntmps27
    go_wp2_with (first | (go_at_call 46; (with_reducible refine (c0 _).mono ?_); rintro e w' ⟨rfl, rfl⟩) | (go_at_call 47; (with_reducible refine (c1 _ bel1).mono ?_); rintro e w1 ⟨rfl, hb1⟩))
    go_ret
    exact ⟨by first | rfl | simp, belT bel1 hb1⟩
set_option maxRecDepth 100000 in
set_option maxHeartbeats 4000000 in
theorem hasRows_any (t : Tt) (aD aS aX aH : Option Addr) (cD cS cX cH : Nat) (w : World) (hR : TR w t (.slice aD t.D.length cD) (.slice aS t.S.length cS) (.slice aX t.X.length cX) (.slice aH t.H.length cH)) : Calls Try.prog 29 #[.slice aD t.D.length cD] w fun e w' => e = .returned (.bool t.rowB) ∧ Below w.heap.size w w' := by
  have c1 := hR.a58
  have hl := hR.dl
  unfold Tt.rowB
  generalize (t.D.all fun x => decide (0 < x.rows.length)) = b1 at *
  generalize t.D.length = n at *
  clear hR
  by_cases h : 0 < n
  · have e : Hid ((decide (0 < n) && b1) = b1) := by show _ = _; simp [h]
    rw [e.out]
    have h' : (0 : Int) < (n : Int) := by omega
    go_enter Try.func29, Try.ntmps29
    go_wp2_with (go_at_call 47; (with_reducible refine c1.mono ?_); rintro e w1 ⟨rfl, hb1⟩)
    go_ret
    exact ⟨by first | rfl | simp, hb1⟩
  · have e : Hid ((decide (0 < n) && b1) = false) := by show _ = _; simp [h]
    rw [e.out]
    have h' : ¬ (0 : Int) < (n : Int) := by omega
    go_enter Try.func29, Try.ntmps29
    go_wp2
    go_ret
    exact ⟨by first | rfl | simp, Below.refl _ _⟩
end Go.Proofs.Ytddphepgcihdbaa
