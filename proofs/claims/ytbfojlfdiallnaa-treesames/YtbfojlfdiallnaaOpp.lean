import Derived.Test.YtbfojlfdiallnaaOpn
import Derived.Test.YtbfojlfdiallnaaArr
namespace Go.Proofs.Ytbfojlfdiallnaa
open Go.ChangeShapes Go.WideShapes Go.ChangeAt Go.RowKit
set_option linter.unusedVariables false

theorem k3 : Try.prog.cellsOf 3 = 1 := by kernel_rfl
theorem k9 : Try.prog.cellsOf 9 = 1 := by kernel_rfl
theorem k21 : Try.prog.cellsOf 21 = 1 := by kernel_rfl
theorem k22 : Try.prog.cellsOf 22 = 1 := by kernel_rfl
theorem k28 : Try.prog.cellsOf 28 = 1 := by kernel_rfl
theorem k39 : Try.prog.cellsOf 39 = 2 := by kernel_rfl
theorem k41 : Try.prog.cellsOf 41 = 5 := by kernel_rfl
theorem k63 : Try.prog.cellsOf 63 = 3 := by kernel_rfl
theorem k64 : Try.prog.cellsOf 64 = 1 := by kernel_rfl
theorem k65 : Try.prog.cellsOf 65 = 1 := by kernel_rfl
theorem k66 : Try.prog.cellsOf 66 = 1 := by kernel_rfl
theorem k68 : Try.prog.cellsOf 68 = 5 := by kernel_rfl
theorem k70 : Try.prog.cellsOf 70 = 15 := by kernel_rfl
theorem k73 : Try.prog.cellsOf 73 = 4 := by kernel_rfl
theorem k85 : Try.prog.cellsOf 85 = 6 := by kernel_rfl
theorem k30 : Try.prog.cellsOf 30 = 2 := by kernel_rfl
theorem y9 : Try.prog.bytesOf 9 = 16 := by kernel_rfl
theorem y41 : Try.prog.bytesOf 41 = 48 := by kernel_rfl
theorem y70 : Try.prog.bytesOf 70 = 224 := by kernel_rfl
theorem y73 : Try.prog.bytesOf 73 = 56 := by kernel_rfl
theorem y85 : Try.prog.bytesOf 85 = 72 := by kernel_rfl

section
variable {H : Type} {enc : TypeId × Value → H} {W : World} {base n : Nat} {held : Bool} {cs : List Value} {y : DataW H × List MemPlace}

set_option maxRecDepth 100000 in
theorem pos_open {a b : Value} (h : DataW.trod enc Try.prog W base (fun _ => true) held n 39 [a, b] = some y) : ∃ l c, a = .int .i64 l ∧ b = .int .i64 c := by
  obtain ⟨zs, k, _, _, _, hlen, hf⟩ := DataW.trod_struct Try.underlying39 h
  match zs, hlen with
  | [z0, z1], _ =>
    have g0 : DataW.trod enc Try.prog W base (fun _ => true) held k 3 [a] = some z0 := by simpa [k3] using hf 0 _ rfl
    have g1 : DataW.trod enc Try.prog W base (fun _ => true) held k 3 [b] = some z1 := by simpa [k3] using hf 1 _ rfl
    obtain ⟨n0, e0, _⟩ := DataW.trod_int Try.underlying3 g0
    obtain ⟨n1, e1, _⟩ := DataW.trod_int Try.underlying3 g1
    simp at e0 e1
    exact ⟨n0, n1, e0, e1⟩

set_option maxRecDepth 100000 in
theorem node_open (h : DataW.trod enc Try.prog W base (fun _ => true) held n 41 cs = some y) : ∃ a : Nd, cs.length = 5 ∧ NdR (fun _ => True) W cs a := by
  obtain ⟨xs, k, _, _, hl, hlen, hf⟩ := DataW.trod_struct Try.underlying41 h
  rw [k41] at hl
  match cs, hl, xs, hlen with
  | [a0, a1, a2, a3, a4], _, [y0, y1, y2, y3], _ =>
    have f0 : DataW.trod enc Try.prog W base (fun _ => true) held k 3 [a0] = some y0 := by simpa [k3] using hf 0 _ rfl
    have f1 : DataW.trod enc Try.prog W base (fun _ => true) held k 21 [a1] = some y1 := by simpa [k21] using hf 1 _ rfl
    have f2 : DataW.trod enc Try.prog W base (fun _ => true) held k 9 [a2] = some y2 := by simpa [k9] using hf 2 _ rfl
    have f3 : DataW.trod enc Try.prog W base (fun _ => true) held k 39 [a3, a4] = some y3 := by simpa [k39] using hf 3 _ rfl
    obtain ⟨n0, e0, _⟩ := DataW.trod_int Try.underlying3 f0
    obtain ⟨n1, e1, _⟩ := DataW.trod_int Try.underlying21 f1
    obtain ⟨s2, e2, _⟩ := DataW.trod_string Try.underlying9 f2
    obtain ⟨l, c, rfl, rfl⟩ := pos_open f3
    simp at e0 e1 e2
    subst e0 e1 e2
    exact ⟨⟨n0, n1, s2, l, c⟩, rfl, rfl⟩
theorem text_open (h : DataW.trod enc Try.prog W base (fun _ => true) held n 9 cs = some y) : ∃ a : ByteArray, cs.length = 1 ∧ TxR (fun _ => True) W cs a := by
  obtain ⟨s2, e2, _⟩ := DataW.trod_string Try.underlying9 h
  exact ⟨s2, by rw [e2]; rfl, e2⟩
theorem nodes_rows (h : DataW.trod enc Try.prog W base (fun _ => true) held n 22 cs = some y) (hw : WOk Try.prog 22 y.1) : ∃ v L, cs = [v] ∧ Exs (fun _ => True) W v L := by
  haveI : Inhabited Nd := ⟨⟨0, 0, ⟨#[]⟩, 0, 0⟩⟩
  exact rows_open (R := NdR) (sz := 5) (by decide) Try.underlying22 k41 y41 (fun n hn => by unfold reachBytes at hn; omega) (fun _ _ _ h _ => node_open h) h hw
theorem texts_rows (h : DataW.trod enc Try.prog W base (fun _ => true) held n 64 cs = some y) (hw : WOk Try.prog 64 y.1) : ∃ v L, cs = [v] ∧ Txs (fun _ => True) W v L := by
  haveI : Inhabited ByteArray := ⟨⟨#[]⟩⟩
  exact rows_open (R := TxR) (sz := 1) (by decide) Try.underlying64 k9 y9 (fun n hn => by unfold reachBytes at hn; omega) (fun _ _ _ h _ => text_open h) h hw
set_option maxRecDepth 100000 in
theorem stmt_open (h : DataW.trod enc Try.prog W base (fun _ => true) held n 85 cs = some y) (hw : WOk Try.prog 85 y.1) : ∃ a : St, cs.length = 6 ∧ StR (fun _ => True) W cs a := by
  obtain ⟨xs, k, _, hy, hl, hlen, hf⟩ := DataW.trod_struct Try.underlying85 h
  subst hy
  rw [k85] at hl
  match cs, hl, xs, hlen with
  | [a0, a1, a2, a3, a4, a5], _, [y0, y1, y2, y3, y4], _ =>
    have f0 : DataW.trod enc Try.prog W base (fun _ => true) held k 3 [a0] = some y0 := by simpa [k3] using hf 0 _ rfl
    have f1 : DataW.trod enc Try.prog W base (fun _ => true) held k 9 [a1] = some y1 := by simpa [k9] using hf 1 _ rfl
    have f2 : DataW.trod enc Try.prog W base (fun _ => true) held k 3 [a2] = some y2 := by simpa [k3] using hf 2 _ rfl
    have f3 : DataW.trod enc Try.prog W base (fun _ => true) held k 22 [a3] = some y3 := by simpa [k22] using hf 3 _ rfl
    have f4 : DataW.trod enc Try.prog W base (fun _ => true) held k 39 [a4, a5] = some y4 := by simpa [k39] using hf 4 _ rfl
    obtain ⟨n0, e0, _⟩ := DataW.trod_int Try.underlying3 f0
    obtain ⟨s1, e1, _⟩ := DataW.trod_string Try.underlying9 f1
    obtain ⟨n2, e2, _⟩ := DataW.trod_int Try.underlying3 f2
    obtain ⟨v, L, e3, hv⟩ := nodes_rows f3 (hw.field Try.underlying85 (j := 3) rfl rfl)
    obtain ⟨l, c, rfl, rfl⟩ := pos_open f4
    simp at e0 e1 e2 e3
    subst e0 e1 e2 e3
    exact ⟨⟨n0, s1, n2, L, l, c⟩, rfl, _, rfl, hv⟩
set_option maxRecDepth 100000 in
theorem next_open (h : DataW.trod enc Try.prog W base (fun _ => true) held n 73 cs = some y) (hw : WOk Try.prog 73 y.1) : ∃ a : Nx, cs.length = 4 ∧ NxR (fun _ => True) W cs a := by
  obtain ⟨xs, k, _, hy, hl, hlen, hf⟩ := DataW.trod_struct Try.underlying73 h
  subst hy
  rw [k73] at hl
  match cs, hl, xs, hlen with
  | [a0, a1, a2, a3], _, [y0, y1, y2], _ =>
    have f0 : DataW.trod enc Try.prog W base (fun _ => true) held k 9 [a0] = some y0 := by simpa [k9] using hf 0 _ rfl
    have f1 : DataW.trod enc Try.prog W base (fun _ => true) held k 22 [a1] = some y1 := by simpa [k22] using hf 1 _ rfl
    have f2 : DataW.trod enc Try.prog W base (fun _ => true) held k 39 [a2, a3] = some y2 := by simpa [k39] using hf 2 _ rfl
    obtain ⟨s0, e0, _⟩ := DataW.trod_string Try.underlying9 f0
    obtain ⟨v, L, e1, hv⟩ := nodes_rows f1 (hw.field Try.underlying73 (j := 1) rfl rfl)
    obtain ⟨l, c, rfl, rfl⟩ := pos_open f2
    simp at e0 e1
    subst e0 e1
    exact ⟨⟨s0, L, l, c⟩, rfl, _, rfl, hv⟩
theorem stmts_rows (h : DataW.trod enc Try.prog W base (fun _ => true) held n 65 cs = some y) (hw : WOk Try.prog 65 y.1) : ∃ v L, cs = [v] ∧ Sts (fun _ => True) W v L := by
  haveI : Inhabited St := ⟨⟨0, ⟨#[]⟩, 0, [], 0, 0⟩⟩
  exact rows_open (R := StR) (sz := 6) (by decide) Try.underlying65 k85 y85 (fun n hn => by unfold reachBytes at hn; omega) (fun _ _ _ h w => stmt_open h w) h hw
theorem nexts_rows (h : DataW.trod enc Try.prog W base (fun _ => true) held n 66 cs = some y) (hw : WOk Try.prog 66 y.1) : ∃ v L, cs = [v] ∧ Nxs (fun _ => True) W v L := by
  haveI : Inhabited Nx := ⟨⟨⟨#[]⟩, [], 0, 0⟩⟩
  exact rows_open (R := NxR) (sz := 4) (by decide) Try.underlying66 k73 y73 (fun n hn => by unfold reachBytes at hn; omega) (fun _ _ _ h w => next_open h w) h hw
set_option maxRecDepth 100000 in
theorem stage_open (h : DataW.trod enc Try.prog W base (fun _ => true) held n 68 cs = some y) (hw : WOk Try.prog 68 y.1) : ∃ (s : SgV) (a : Sg), cs = s.cs ∧ SgR (fun _ => True) W s a := by
  obtain ⟨xs, k, _, hy, hl, hlen, hf⟩ := DataW.trod_struct Try.underlying68 h
  subst hy
  rw [k68] at hl
  match cs, hl, xs, hlen with
  | [a0, a1, a2, a3, a4], _, [y0, y1, y2, y3, y4], _ =>
    have f0 : DataW.trod enc Try.prog W base (fun _ => true) held k 64 [a0] = some y0 := by simpa [k64] using hf 0 _ rfl
    have f1 : DataW.trod enc Try.prog W base (fun _ => true) held k 65 [a1] = some y1 := by simpa [k65] using hf 1 _ rfl
    have f2 : DataW.trod enc Try.prog W base (fun _ => true) held k 65 [a2] = some y2 := by simpa [k65] using hf 2 _ rfl
    have f3 : DataW.trod enc Try.prog W base (fun _ => true) held k 65 [a3] = some y3 := by simpa [k65] using hf 3 _ rfl
    have f4 : DataW.trod enc Try.prog W base (fun _ => true) held k 66 [a4] = some y4 := by simpa [k66] using hf 4 _ rfl
    obtain ⟨v0, L0, e0, h0⟩ := texts_rows f0 (hw.field Try.underlying68 (j := 0) rfl rfl)
    obtain ⟨v1, L1, e1, h1⟩ := stmts_rows f1 (hw.field Try.underlying68 (j := 1) rfl rfl)
    obtain ⟨v2, L2, e2, h2⟩ := stmts_rows f2 (hw.field Try.underlying68 (j := 2) rfl rfl)
    obtain ⟨v3, L3, e3, h3⟩ := stmts_rows f3 (hw.field Try.underlying68 (j := 3) rfl rfl)
    obtain ⟨v4, L4, e4, h4⟩ := nexts_rows f4 (hw.field Try.underlying68 (j := 4) rfl rfl)
    simp at e0 e1 e2 e3 e4
    subst e0 e1 e2 e3 e4
    exact ⟨⟨_, _, _, _, _⟩, ⟨L0, L1, L2, L3, L4⟩, rfl, h0, h1, h2, h3, h4⟩
set_option maxRecDepth 100000 in
theorem arr_open {a b c : Value} (h : DataW.trod enc Try.prog W base (fun _ => true) held n 63 [a, b, c] = some y) : ∃ i j k, a = .int .i32 i ∧ b = .int .i32 j ∧ c = .int .i32 k := by
  obtain ⟨zs, k, _, _, _, hlen, hf⟩ := DataW.trod_array u63 h
  match zs, hlen with
  | [z0, z1, z2], _ =>
    have g0 : DataW.trod enc Try.prog W base (fun _ => true) held k 21 [a] = some z0 := by simpa [k21] using hf 0 (by decide)
    have g1 : DataW.trod enc Try.prog W base (fun _ => true) held k 21 [b] = some z1 := by simpa [k21] using hf 1 (by decide)
    have g2 : DataW.trod enc Try.prog W base (fun _ => true) held k 21 [c] = some z2 := by simpa [k21] using hf 2 (by decide)
    obtain ⟨n0, e0, _⟩ := DataW.trod_int Try.underlying21 g0
    obtain ⟨n1, e1, _⟩ := DataW.trod_int Try.underlying21 g1
    obtain ⟨n2, e2, _⟩ := DataW.trod_int Try.underlying21 g2
    simp at e0 e1 e2
    exact ⟨n0, n1, n2, e0, e1, e2⟩
set_option maxRecDepth 100000 in
theorem decl_open (h : DataW.trod enc Try.prog W base (fun _ => true) held n 70 cs = some y) (hw : WOk Try.prog 70 y.1) : ∃ a : Dc, cs.length = 15 ∧ DcR (fun _ => True) W cs a := by
  obtain ⟨xs, k, _, hy, hl, hlen, hf⟩ := DataW.trod_struct Try.underlying70 h
  subst hy
  rw [k70] at hl
  match cs, hl, xs, hlen with
  | [a0, a1, a2, a3, a4, a5, a6, a7, a8, a9, b0, b1, b2, b3, b4], _, [y0, y1, y2, y3, y4, y5, y6, y7], _ =>
    have f0 : DataW.trod enc Try.prog W base (fun _ => true) held k 3 [a0] = some y0 := by simpa [k3] using hf 0 _ rfl
    have f1 : DataW.trod enc Try.prog W base (fun _ => true) held k 39 [a1, a2] = some y1 := by simpa [k39] using hf 1 _ rfl
    have f2 : DataW.trod enc Try.prog W base (fun _ => true) held k 9 [a3] = some y2 := by simpa [k9] using hf 2 _ rfl
    have f3 : DataW.trod enc Try.prog W base (fun _ => true) held k 9 [a4] = some y3 := by simpa [k9] using hf 3 _ rfl
    have f4 : DataW.trod enc Try.prog W base (fun _ => true) held k 3 [a5] = some y4 := by simpa [k3] using hf 4 _ rfl
    have f5 : DataW.trod enc Try.prog W base (fun _ => true) held k 63 [a6, a7, a8] = some y5 := by simpa [k63] using hf 5 _ rfl
    have f6 : DataW.trod enc Try.prog W base (fun _ => true) held k 22 [a9] = some y6 := by simpa [k22] using hf 6 _ rfl
    have f7 : DataW.trod enc Try.prog W base (fun _ => true) held k 68 [b0, b1, b2, b3, b4] = some y7 := by simpa [k68] using hf 7 _ rfl
    obtain ⟨n0, e0, _⟩ := DataW.trod_int Try.underlying3 f0
    obtain ⟨l, c, rfl, rfl⟩ := pos_open f1
    obtain ⟨s2, e2, _⟩ := DataW.trod_string Try.underlying9 f2
    obtain ⟨s3, e3, _⟩ := DataW.trod_string Try.underlying9 f3
    obtain ⟨n4, e4, _⟩ := DataW.trod_int Try.underlying3 f4
    obtain ⟨i, j, m, rfl, rfl, rfl⟩ := arr_open f5
    obtain ⟨v6, L6, e6, h6⟩ := nodes_rows f6 (hw.field Try.underlying70 (j := 6) rfl rfl)
    obtain ⟨⟨t0, t1, t2, t3, t4⟩, g, e7, h7⟩ := stage_open f7 (hw.field Try.underlying70 (j := 7) rfl rfl)
    simp [SgV.cs] at e0 e2 e3 e4 e6 e7
    obtain ⟨rfl, rfl, rfl, rfl, rfl⟩ := e7
    subst e0 e2 e3 e4 e6
    exact ⟨⟨n0, l, c, s2, s3, n4, i, j, m, L6, g⟩, rfl, _, ⟨_, _, _, _, _⟩, rfl, h6, h7⟩
theorem decls_rows (h : DataW.trod enc Try.prog W base (fun _ => true) held n 28 cs = some y) (hw : WOk Try.prog 28 y.1) : ∃ v L, cs = [v] ∧ Dcs (fun _ => True) W v L := by
  haveI : Inhabited Dc := ⟨⟨0, 0, 0, ⟨#[]⟩, ⟨#[]⟩, 0, 0, 0, 0, [], ⟨[], [], [], [], []⟩⟩⟩
  exact rows_open (R := DcR) (sz := 15) (by decide) Try.underlying28 k70 y70 (fun n hn => by unfold reachBytes at hn; omega) (fun _ _ _ h w => decl_open h w) h hw
set_option maxRecDepth 100000 in
theorem plan_open (h : DataW.trod enc Try.prog W base (fun _ => true) held n 30 cs = some y) (hw : WOk Try.prog 30 y.1) : ∃ p : Pl, PlR (fun _ => True) W (.agg cs.toArray) p := by
  obtain ⟨xs, k, _, hy, hl, hlen, hf⟩ := DataW.trod_struct Try.underlying30 h
  subst hy
  rw [k30] at hl
  match cs, hl, xs, hlen with
  | [a0, a1], _, [y0, y1], _ =>
    have f0 : DataW.trod enc Try.prog W base (fun _ => true) held k 9 [a0] = some y0 := by simpa [k9] using hf 0 _ rfl
    have f1 : DataW.trod enc Try.prog W base (fun _ => true) held k 28 [a1] = some y1 := by simpa [k28] using hf 1 _ rfl
    obtain ⟨s0, e0, _⟩ := DataW.trod_string Try.underlying9 f0
    obtain ⟨v1, L1, e1, h1⟩ := decls_rows f1 (hw.field Try.underlying30 (j := 1) rfl rfl)
    simp at e0 e1
    subst e0 e1
    exact ⟨⟨s0, L1⟩, _, rfl, h1⟩
end
end Go.Proofs.Ytbfojlfdiallnaa
