import Derived.Test.YthjdflcakngpiaaDoorOpp
import Derived.Test.YthjdflcakngpiaaDoorFmP
namespace Go.Proofs.YthjdflcakngpiaaDoor
open Go.ChangeShapes Go.WideShapes Go.ChangeAt Go.RowKit
set_option linter.unusedVariables false

theorem sm_of {H : Type} {s : ByteArray} (h : WOk Tryd.prog 9 (.lit (.string s.data.toList) : DataW H)) : Sm s := by
  have h1 := h s.data.toList.length (by simp [DataW.weights])
  have h2 := reachBytes_lt
  have e1 : s.size = s.data.size := rfl
  have e2 : s.data.toList.length = s.data.size := Array.length_toList
  have e3 : (2 : Nat) ^ 47 = 140737488355328 := by decide
  unfold Sm
  omega
theorem lo32 {n : Int} (h : (Lit.int .i32 n).wf = true) : -2147483648 ≤ n := by
  simp [Lit.wf, IntKind.min, IntKind.max, IntKind.bits, IntKind.signed] at h
  omega
theorem rows_imp {α : Type} {sz mx : Nat} {R R2 : (Nat → Prop) → World → List Value → α → Prop} {Q : α → Prop} {S : Nat → Prop} {w : World} {v : Value} {L : List α} (hR : ∀ cs x, R S w cs x → R2 S w cs x ∧ Q x) (h : Rows sz mx R S w v L) : Rows sz mx R2 S w v L ∧ ∀ x ∈ L, Q x := by
  rcases h with ⟨h1, h2⟩ | ⟨ad, cap, rfl, hc, hm', h | ⟨hs, hS, hg, hx⟩⟩
  · exact ⟨.inl ⟨h1, h2⟩, fun x hx => by rw [h2] at hx; cases hx⟩
  · exact ⟨.inr ⟨ad, cap, rfl, hc, hm', .inl h⟩, fun x hx => by rw [h] at hx; cases hx⟩
  · refine ⟨.inr ⟨ad, cap, rfl, hc, hm', .inr ⟨hs, hS, hg, fun i hi => ?_⟩⟩, fun x hx' => ?_⟩
    · obtain ⟨cs, a, b, c⟩ := hx i hi
      exact ⟨cs, a, (hR _ _ b).1, c⟩
    · obtain ⟨i, hi, rfl⟩ := List.getElem_of_mem hx'
      obtain ⟨cs, a, b, c⟩ := hx i hi
      exact (hR _ _ b).2

section
variable {H : Type} {enc : TypeId × Value → H} {W : World} {base n : Nat} {held : Bool} {cs : List Value} {y : DataW H × List MemPlace}
set_option maxRecDepth 100000 in
theorem node_openS (h : DataW.trod enc Tryd.prog W base (fun _ => true) held n 59 cs = some y) (hw : WOk Tryd.prog 59 y.1) : ∃ a : Nd, cs.length = 5 ∧ (NdR (fun _ => True) W cs a ∧ Sm a.name) := by
  obtain ⟨xs, k, _, hy, hl, hlen, hf⟩ := DataW.trod_struct Tryd.underlying59 h
  subst hy
  rw [k41] at hl
  match cs, hl, xs, hlen with
  | [a0, a1, a2, a3, a4], _, [y0, y1, y2, y3], _ =>
    have f0 : DataW.trod enc Tryd.prog W base (fun _ => true) held k 3 [a0] = some y0 := by simpa [k3] using hf 0 _ rfl
    have f1 : DataW.trod enc Tryd.prog W base (fun _ => true) held k 21 [a1] = some y1 := by simpa [k21] using hf 1 _ rfl
    have f2 : DataW.trod enc Tryd.prog W base (fun _ => true) held k 9 [a2] = some y2 := by simpa [k9] using hf 2 _ rfl
    have f3 : DataW.trod enc Tryd.prog W base (fun _ => true) held k 45 [a3, a4] = some y3 := by simpa [k39] using hf 3 _ rfl
    obtain ⟨n0, e0, _⟩ := DataW.trod_int Tryd.underlying3 f0
    obtain ⟨n1, e1, _⟩ := DataW.trod_int Tryd.underlying21 f1
    obtain ⟨s2, e2, d2, _⟩ := DataW.trod_string Tryd.underlying9 f2
    obtain ⟨l, c, rfl, rfl⟩ := pos_open f3
    have w2 := hw.field Tryd.underlying59 (j := 2) (d := y2.1) rfl rfl
    rw [d2] at w2
    simp at e0 e1 e2
    subst e0 e1 e2
    exact ⟨⟨n0, n1, s2, l, c⟩, rfl, rfl, sm_of w2⟩
theorem text_openS (h : DataW.trod enc Tryd.prog W base (fun _ => true) held n 9 cs = some y) (hw : WOk Tryd.prog 9 y.1) : ∃ a : ByteArray, cs.length = 1 ∧ (TxR (fun _ => True) W cs a ∧ Sm a) := by
  obtain ⟨s2, e2, d2, _⟩ := DataW.trod_string Tryd.underlying9 h
  rw [d2] at hw
  exact ⟨s2, by rw [e2]; rfl, e2, sm_of hw⟩
theorem nodes_rowsS (h : DataW.trod enc Tryd.prog W base (fun _ => true) held n 25 cs = some y) (hw : WOk Tryd.prog 25 y.1) : ∃ v L, cs = [v] ∧ Exs (fun _ => True) W v L ∧ SmE L := by
  haveI : Inhabited Nd := ⟨⟨0, 0, ⟨#[]⟩, 0, 0⟩⟩
  obtain ⟨v, L, e, r⟩ := rows_open (mx := 2932031007317) (R := fun S w cs x => NdR S w cs x ∧ Sm x.name) (sz := 5) (by decide) Tryd.underlying25 k41 y41 (fun n hn => by unfold reachBytes at hn; omega) (fun _ _ _ h w => node_openS h w) h hw
  obtain ⟨r1, r2⟩ := rows_imp (R2 := NdR) (fun _ _ h => h) r
  exact ⟨v, L, e, r1, r2⟩
theorem texts_rowsS (h : DataW.trod enc Tryd.prog W base (fun _ => true) held n 47 cs = some y) (hw : WOk Tryd.prog 47 y.1) : ∃ v L, cs = [v] ∧ Txs (fun _ => True) W v L ∧ (∀ x ∈ L, Sm x) := by
  haveI : Inhabited ByteArray := ⟨⟨#[]⟩⟩
  obtain ⟨v, L, e, r⟩ := rows_open (mx := 8796093022100) (R := fun S w cs x => TxR S w cs x ∧ Sm x) (sz := 1) (by decide) Tryd.underlying47 k9 y9 (fun n hn => by unfold reachBytes at hn; omega) (fun _ _ _ h w => text_openS h w) h hw
  obtain ⟨r1, r2⟩ := rows_imp (R2 := TxR) (fun _ _ h => h) r
  exact ⟨v, L, e, r1, r2⟩
set_option maxRecDepth 100000 in
theorem stmt_openS (h : DataW.trod enc Tryd.prog W base (fun _ => true) held n 66 cs = some y) (hw : WOk Tryd.prog 66 y.1) : ∃ a : St, cs.length = 6 ∧ (StR (fun _ => True) W cs a ∧ Sm a.name ∧ SmE a.expr) := by
  obtain ⟨xs, k, _, hy, hl, hlen, hf⟩ := DataW.trod_struct Tryd.underlying66 h
  subst hy
  rw [k85] at hl
  match cs, hl, xs, hlen with
  | [a0, a1, a2, a3, a4, a5], _, [y0, y1, y2, y3, y4], _ =>
    have f0 : DataW.trod enc Tryd.prog W base (fun _ => true) held k 3 [a0] = some y0 := by simpa [k3] using hf 0 _ rfl
    have f1 : DataW.trod enc Tryd.prog W base (fun _ => true) held k 9 [a1] = some y1 := by simpa [k9] using hf 1 _ rfl
    have f2 : DataW.trod enc Tryd.prog W base (fun _ => true) held k 3 [a2] = some y2 := by simpa [k3] using hf 2 _ rfl
    have f3 : DataW.trod enc Tryd.prog W base (fun _ => true) held k 25 [a3] = some y3 := by simpa [k22] using hf 3 _ rfl
    have f4 : DataW.trod enc Tryd.prog W base (fun _ => true) held k 45 [a4, a5] = some y4 := by simpa [k39] using hf 4 _ rfl
    obtain ⟨n0, e0, _⟩ := DataW.trod_int Tryd.underlying3 f0
    obtain ⟨s1, e1, d1, _⟩ := DataW.trod_string Tryd.underlying9 f1
    have w1 := hw.field Tryd.underlying66 (j := 1) (d := y1.1) rfl rfl
    rw [d1] at w1
    obtain ⟨n2, e2, _⟩ := DataW.trod_int Tryd.underlying3 f2
    obtain ⟨v, L, e3, hv, hse⟩ := nodes_rowsS f3 (hw.field Tryd.underlying66 (j := 3) rfl rfl)
    obtain ⟨l, c, rfl, rfl⟩ := pos_open f4
    simp at e0 e1 e2 e3
    subst e0 e1 e2 e3
    exact ⟨⟨n0, s1, n2, L, l, c⟩, rfl, ⟨_, rfl, hv⟩, sm_of w1, hse⟩
set_option maxRecDepth 100000 in
theorem next_openS (h : DataW.trod enc Tryd.prog W base (fun _ => true) held n 56 cs = some y) (hw : WOk Tryd.prog 56 y.1) : ∃ a : Nx, cs.length = 4 ∧ (NxR (fun _ => True) W cs a ∧ Sm a.dst ∧ SmE a.cnd) := by
  obtain ⟨xs, k, _, hy, hl, hlen, hf⟩ := DataW.trod_struct Tryd.underlying56 h
  subst hy
  rw [k73] at hl
  match cs, hl, xs, hlen with
  | [a0, a1, a2, a3], _, [y0, y1, y2], _ =>
    have f0 : DataW.trod enc Tryd.prog W base (fun _ => true) held k 9 [a0] = some y0 := by simpa [k9] using hf 0 _ rfl
    have f1 : DataW.trod enc Tryd.prog W base (fun _ => true) held k 25 [a1] = some y1 := by simpa [k22] using hf 1 _ rfl
    have f2 : DataW.trod enc Tryd.prog W base (fun _ => true) held k 45 [a2, a3] = some y2 := by simpa [k39] using hf 2 _ rfl
    obtain ⟨s0, e0, d0, _⟩ := DataW.trod_string Tryd.underlying9 f0
    have w0 := hw.field Tryd.underlying56 (j := 0) (d := y0.1) rfl rfl
    rw [d0] at w0
    obtain ⟨v, L, e1, hv, hse⟩ := nodes_rowsS f1 (hw.field Tryd.underlying56 (j := 1) rfl rfl)
    obtain ⟨l, c, rfl, rfl⟩ := pos_open f2
    simp at e0 e1
    subst e0 e1
    exact ⟨⟨s0, L, l, c⟩, rfl, ⟨_, rfl, hv⟩, sm_of w0, hse⟩
theorem stmts_rowsS (h : DataW.trod enc Tryd.prog W base (fun _ => true) held n 48 cs = some y) (hw : WOk Tryd.prog 48 y.1) : ∃ v L, cs = [v] ∧ Sts (fun _ => True) W v L ∧ SmS L := by
  haveI : Inhabited St := ⟨⟨0, ⟨#[]⟩, 0, [], 0, 0⟩⟩
  obtain ⟨v, L, e, r⟩ := rows_open (mx := 1954687338211) (R := fun S w cs x => StR S w cs x ∧ (Sm x.name ∧ SmE x.expr)) (sz := 6) (by decide) Tryd.underlying48 k85 y85 (fun n hn => by unfold reachBytes at hn; omega) (fun _ _ _ h w => stmt_openS h w) h hw
  obtain ⟨r1, r2⟩ := rows_imp (R2 := StR) (fun _ _ h => h) r
  exact ⟨v, L, e, r1, r2⟩
theorem nexts_rowsS (h : DataW.trod enc Tryd.prog W base (fun _ => true) held n 49 cs = some y) (hw : WOk Tryd.prog 49 y.1) : ∃ v L, cs = [v] ∧ Nxs (fun _ => True) W v L ∧ SmN L := by
  haveI : Inhabited Nx := ⟨⟨⟨#[]⟩, [], 0, 0⟩⟩
  obtain ⟨v, L, e, r⟩ := rows_open (mx := 2513169434900) (R := fun S w cs x => NxR S w cs x ∧ (Sm x.dst ∧ SmE x.cnd)) (sz := 4) (by decide) Tryd.underlying49 k73 y73 (fun n hn => by unfold reachBytes at hn; omega) (fun _ _ _ h w => next_openS h w) h hw
  obtain ⟨r1, r2⟩ := rows_imp (R2 := NxR) (fun _ _ h => h) r
  exact ⟨v, L, e, r1, r2⟩
set_option maxRecDepth 100000 in
theorem stage_openS (h : DataW.trod enc Tryd.prog W base (fun _ => true) held n 51 cs = some y) (hw : WOk Tryd.prog 51 y.1) : ∃ (s : SgV) (a : Sg), cs = s.cs ∧ SgR (fun _ => True) W s a ∧ SmG a := by
  obtain ⟨xs, k, _, hy, hl, hlen, hf⟩ := DataW.trod_struct Tryd.underlying51 h
  subst hy
  rw [k68] at hl
  match cs, hl, xs, hlen with
  | [a0, a1, a2, a3, a4], _, [y0, y1, y2, y3, y4], _ =>
    have f0 : DataW.trod enc Tryd.prog W base (fun _ => true) held k 47 [a0] = some y0 := by simpa [k64] using hf 0 _ rfl
    have f1 : DataW.trod enc Tryd.prog W base (fun _ => true) held k 48 [a1] = some y1 := by simpa [k65] using hf 1 _ rfl
    have f2 : DataW.trod enc Tryd.prog W base (fun _ => true) held k 48 [a2] = some y2 := by simpa [k65] using hf 2 _ rfl
    have f3 : DataW.trod enc Tryd.prog W base (fun _ => true) held k 48 [a3] = some y3 := by simpa [k65] using hf 3 _ rfl
    have f4 : DataW.trod enc Tryd.prog W base (fun _ => true) held k 49 [a4] = some y4 := by simpa [k66] using hf 4 _ rfl
    obtain ⟨v0, L0, e0, h0, m0⟩ := texts_rowsS f0 (hw.field Tryd.underlying51 (j := 0) rfl rfl)
    obtain ⟨v1, L1, e1, h1, m1⟩ := stmts_rowsS f1 (hw.field Tryd.underlying51 (j := 1) rfl rfl)
    obtain ⟨v2, L2, e2, h2, m2⟩ := stmts_rowsS f2 (hw.field Tryd.underlying51 (j := 2) rfl rfl)
    obtain ⟨v3, L3, e3, h3, m3⟩ := stmts_rowsS f3 (hw.field Tryd.underlying51 (j := 3) rfl rfl)
    obtain ⟨v4, L4, e4, h4, m4⟩ := nexts_rowsS f4 (hw.field Tryd.underlying51 (j := 4) rfl rfl)
    simp at e0 e1 e2 e3 e4
    subst e0 e1 e2 e3 e4
    exact ⟨⟨_, _, _, _, _⟩, ⟨L0, L1, L2, L3, L4⟩, rfl, ⟨h0, h1, h2, h3, h4⟩, m0, m1, m2, m3, m4⟩
set_option maxRecDepth 100000 in
theorem arr_openS {a b c : Value} (h : DataW.trod enc Tryd.prog W base (fun _ => true) held n 46 [a, b, c] = some y) : ∃ i j k, (a = .int .i32 i ∧ b = .int .i32 j ∧ c = .int .i32 k) ∧ -2147483648 ≤ i ∧ -2147483648 ≤ j ∧ -2147483648 ≤ k := by
  obtain ⟨zs, k, _, _, _, hlen, hf⟩ := DataW.trod_array u63 h
  match zs, hlen with
  | [z0, z1, z2], _ =>
    have g0 : DataW.trod enc Tryd.prog W base (fun _ => true) held k 21 [a] = some z0 := by simpa [k21] using hf 0 (by decide)
    have g1 : DataW.trod enc Tryd.prog W base (fun _ => true) held k 21 [b] = some z1 := by simpa [k21] using hf 1 (by decide)
    have g2 : DataW.trod enc Tryd.prog W base (fun _ => true) held k 21 [c] = some z2 := by simpa [k21] using hf 2 (by decide)
    obtain ⟨n0, e0, _, w0⟩ := DataW.trod_int Tryd.underlying21 g0
    obtain ⟨n1, e1, _, w1⟩ := DataW.trod_int Tryd.underlying21 g1
    obtain ⟨n2, e2, _, w2⟩ := DataW.trod_int Tryd.underlying21 g2
    simp at e0 e1 e2
    exact ⟨n0, n1, n2, ⟨e0, e1, e2⟩, lo32 w0, lo32 w1, lo32 w2⟩
set_option maxRecDepth 100000 in
theorem decl_openS (h : DataW.trod enc Tryd.prog W base (fun _ => true) held n 53 cs = some y) (hw : WOk Tryd.prog 53 y.1) : ∃ a : Dc, cs.length = 15 ∧ (DcR (fun _ => True) W cs a ∧ SmD a ∧ RgD a) := by
  obtain ⟨xs, k, _, hy, hl, hlen, hf⟩ := DataW.trod_struct Tryd.underlying53 h
  subst hy
  rw [k70] at hl
  match cs, hl, xs, hlen with
  | [a0, a1, a2, a3, a4, a5, a6, a7, a8, a9, b0, b1, b2, b3, b4], _, [y0, y1, y2, y3, y4, y5, y6, y7], _ =>
    have f0 : DataW.trod enc Tryd.prog W base (fun _ => true) held k 3 [a0] = some y0 := by simpa [k3] using hf 0 _ rfl
    have f1 : DataW.trod enc Tryd.prog W base (fun _ => true) held k 45 [a1, a2] = some y1 := by simpa [k39] using hf 1 _ rfl
    have f2 : DataW.trod enc Tryd.prog W base (fun _ => true) held k 9 [a3] = some y2 := by simpa [k9] using hf 2 _ rfl
    have f3 : DataW.trod enc Tryd.prog W base (fun _ => true) held k 9 [a4] = some y3 := by simpa [k9] using hf 3 _ rfl
    have f4 : DataW.trod enc Tryd.prog W base (fun _ => true) held k 3 [a5] = some y4 := by simpa [k3] using hf 4 _ rfl
    have f5 : DataW.trod enc Tryd.prog W base (fun _ => true) held k 46 [a6, a7, a8] = some y5 := by simpa [k63] using hf 5 _ rfl
    have f6 : DataW.trod enc Tryd.prog W base (fun _ => true) held k 25 [a9] = some y6 := by simpa [k22] using hf 6 _ rfl
    have f7 : DataW.trod enc Tryd.prog W base (fun _ => true) held k 51 [b0, b1, b2, b3, b4] = some y7 := by simpa [k68] using hf 7 _ rfl
    obtain ⟨n0, e0, _⟩ := DataW.trod_int Tryd.underlying3 f0
    obtain ⟨l, c, rfl, rfl⟩ := pos_open f1
    obtain ⟨s2, e2, d2, _⟩ := DataW.trod_string Tryd.underlying9 f2
    have w2 := hw.field Tryd.underlying53 (j := 2) (d := y2.1) rfl rfl
    rw [d2] at w2
    obtain ⟨s3, e3, d3, _⟩ := DataW.trod_string Tryd.underlying9 f3
    have w3 := hw.field Tryd.underlying53 (j := 3) (d := y3.1) rfl rfl
    rw [d3] at w3
    obtain ⟨n4, e4, _⟩ := DataW.trod_int Tryd.underlying3 f4
    obtain ⟨i, j, m, ⟨rfl, rfl, rfl⟩, r0, r1, r2⟩ := arr_openS f5
    obtain ⟨v6, L6, e6, h6, m6⟩ := nodes_rowsS f6 (hw.field Tryd.underlying53 (j := 6) rfl rfl)
    obtain ⟨⟨t0, t1, t2, t3, t4⟩, g, e7, h7, m7⟩ := stage_openS f7 (hw.field Tryd.underlying53 (j := 7) rfl rfl)
    simp [SgV.cs] at e0 e2 e3 e4 e6 e7
    obtain ⟨rfl, rfl, rfl, rfl, rfl⟩ := e7
    subst e0 e2 e3 e4 e6
    exact ⟨⟨n0, l, c, s2, s3, n4, i, j, m, L6, g⟩, rfl, ⟨_, ⟨_, _, _, _, _⟩, rfl, h6, h7⟩, ⟨sm_of w2, sm_of w3, m6, m7⟩, r0, r1, r2⟩
theorem decls_rowsS (h : DataW.trod enc Tryd.prog W base (fun _ => true) held n 22 cs = some y) (hw : WOk Tryd.prog 22 y.1) : ∃ v L, cs = [v] ∧ Dcs (fun _ => True) W v L ∧ (∀ x ∈ L, SmD x ∧ RgD x) := by
  haveI : Inhabited Dc := ⟨⟨0, 0, 0, ⟨#[]⟩, ⟨#[]⟩, 0, 0, 0, 0, [], ⟨[], [], [], [], []⟩⟩⟩
  obtain ⟨v, L, e, r⟩ := rows_open (mx := 628292358710) (R := fun S w cs x => DcR S w cs x ∧ (SmD x ∧ RgD x)) (sz := 15) (by decide) Tryd.underlying22 k70 y70 (fun n hn => by unfold reachBytes at hn; omega) (fun _ _ _ h w => decl_openS h w) h hw
  obtain ⟨r1, r2⟩ := rows_imp (R2 := DcR) (fun _ _ h => h) r
  exact ⟨v, L, e, r1, r2⟩
set_option maxRecDepth 100000 in
theorem plan_openS (h : DataW.trod enc Tryd.prog W base (fun _ => true) held n 24 cs = some y) (hw : WOk Tryd.prog 24 y.1) : ∃ p : Pl, PlR (fun _ => True) W (.agg cs.toArray) p ∧ SmP p ∧ ∀ d ∈ p.decls, RgD d := by
  obtain ⟨xs, k, _, hy, hl, hlen, hf⟩ := DataW.trod_struct Tryd.underlying24 h
  subst hy
  rw [k30] at hl
  match cs, hl, xs, hlen with
  | [a0, a1], _, [y0, y1], _ =>
    have f0 : DataW.trod enc Tryd.prog W base (fun _ => true) held k 9 [a0] = some y0 := by simpa [k9] using hf 0 _ rfl
    have f1 : DataW.trod enc Tryd.prog W base (fun _ => true) held k 22 [a1] = some y1 := by simpa [k28] using hf 1 _ rfl
    obtain ⟨s0, e0, d0, _⟩ := DataW.trod_string Tryd.underlying9 f0
    have w0 := hw.field Tryd.underlying24 (j := 0) (d := y0.1) rfl rfl
    rw [d0] at w0
    obtain ⟨v1, L1, e1, h1, m1⟩ := decls_rowsS f1 (hw.field Tryd.underlying24 (j := 1) rfl rfl)
    simp at e0 e1
    subst e0 e1
    exact ⟨⟨s0, L1⟩, ⟨_, rfl, h1⟩, ⟨sm_of w0, fun d hd => (m1 d hd).1⟩, fun d hd => (m1 d hd).2⟩
end
end Go.Proofs.YthjdflcakngpiaaDoor
