import Derived.Test.YthjdflcakngpiaaDoorOpn
import Derived.Test.YthjdflcakngpiaaDoorArr
namespace Go.Proofs.YthjdflcakngpiaaDoor
open Go.ChangeShapes Go.WideShapes Go.ChangeAt Go.RowKit
set_option linter.unusedVariables false

theorem k3 : Tryd.prog.cellsOf 3 = 1 := by kernel_rfl
theorem k9 : Tryd.prog.cellsOf 9 = 1 := by kernel_rfl
theorem k21 : Tryd.prog.cellsOf 21 = 1 := by kernel_rfl
theorem k22 : Tryd.prog.cellsOf 25 = 1 := by kernel_rfl
theorem k28 : Tryd.prog.cellsOf 22 = 1 := by kernel_rfl
theorem k39 : Tryd.prog.cellsOf 45 = 2 := by kernel_rfl
theorem k41 : Tryd.prog.cellsOf 59 = 5 := by kernel_rfl
theorem k63 : Tryd.prog.cellsOf 46 = 3 := by kernel_rfl
theorem k64 : Tryd.prog.cellsOf 47 = 1 := by kernel_rfl
theorem k65 : Tryd.prog.cellsOf 48 = 1 := by kernel_rfl
theorem k66 : Tryd.prog.cellsOf 49 = 1 := by kernel_rfl
theorem k68 : Tryd.prog.cellsOf 51 = 5 := by kernel_rfl
theorem k70 : Tryd.prog.cellsOf 53 = 15 := by kernel_rfl
theorem k73 : Tryd.prog.cellsOf 56 = 4 := by kernel_rfl
theorem k85 : Tryd.prog.cellsOf 66 = 6 := by kernel_rfl
theorem k30 : Tryd.prog.cellsOf 24 = 2 := by kernel_rfl
theorem y9 : Tryd.prog.bytesOf 9 = 16 := by kernel_rfl
theorem y41 : Tryd.prog.bytesOf 59 = 48 := by kernel_rfl
theorem y70 : Tryd.prog.bytesOf 53 = 224 := by kernel_rfl
theorem y73 : Tryd.prog.bytesOf 56 = 56 := by kernel_rfl
theorem y85 : Tryd.prog.bytesOf 66 = 72 := by kernel_rfl

section
variable {H : Type} {enc : TypeId × Value → H} {W : World} {base n : Nat} {held : Bool} {cs : List Value} {y : DataW H × List MemPlace}

set_option maxRecDepth 100000 in
theorem pos_open {a b : Value} (h : DataW.trod enc Tryd.prog W base (fun _ => true) held n 45 [a, b] = some y) : ∃ l c, a = .int .i64 l ∧ b = .int .i64 c := by
  obtain ⟨zs, k, _, _, _, hlen, hf⟩ := DataW.trod_struct Tryd.underlying45 h
  match zs, hlen with
  | [z0, z1], _ =>
    have g0 : DataW.trod enc Tryd.prog W base (fun _ => true) held k 3 [a] = some z0 := by simpa [k3] using hf 0 _ rfl
    have g1 : DataW.trod enc Tryd.prog W base (fun _ => true) held k 3 [b] = some z1 := by simpa [k3] using hf 1 _ rfl
    obtain ⟨n0, e0, _⟩ := DataW.trod_int Tryd.underlying3 g0
    obtain ⟨n1, e1, _⟩ := DataW.trod_int Tryd.underlying3 g1
    simp at e0 e1
    exact ⟨n0, n1, e0, e1⟩

set_option maxRecDepth 100000 in
theorem node_open (h : DataW.trod enc Tryd.prog W base (fun _ => true) held n 59 cs = some y) : ∃ a : Nd, cs.length = 5 ∧ NdR (fun _ => True) W cs a := by
  obtain ⟨xs, k, _, _, hl, hlen, hf⟩ := DataW.trod_struct Tryd.underlying59 h
  rw [k41] at hl
  match cs, hl, xs, hlen with
  | [a0, a1, a2, a3, a4], _, [y0, y1, y2, y3], _ =>
    have f0 : DataW.trod enc Tryd.prog W base (fun _ => true) held k 3 [a0] = some y0 := by simpa [k3] using hf 0 _ rfl
    have f1 : DataW.trod enc Tryd.prog W base (fun _ => true) held k 21 [a1] = some y1 := by simpa [k21] using hf 1 _ rfl
    have f2 : DataW.trod enc Tryd.prog W base (fun _ => true) held k 9 [a2] = some y2 := by simpa [k9] using hf 2 _ rfl
    have f3 : DataW.trod enc Tryd.prog W base (fun _ => true) held k 45 [a3, a4] = some y3 := by simpa [k39] using hf 3 _ rfl
    obtain ⟨n0, e0, _⟩ := DataW.trod_int Tryd.underlying3 f0
    obtain ⟨n1, e1, _⟩ := DataW.trod_int Tryd.underlying21 f1
    obtain ⟨s2, e2, _⟩ := DataW.trod_string Tryd.underlying9 f2
    obtain ⟨l, c, rfl, rfl⟩ := pos_open f3
    simp at e0 e1 e2
    subst e0 e1 e2
    exact ⟨⟨n0, n1, s2, l, c⟩, rfl, rfl⟩
theorem text_open (h : DataW.trod enc Tryd.prog W base (fun _ => true) held n 9 cs = some y) : ∃ a : ByteArray, cs.length = 1 ∧ TxR (fun _ => True) W cs a := by
  obtain ⟨s2, e2, _⟩ := DataW.trod_string Tryd.underlying9 h
  exact ⟨s2, by rw [e2]; rfl, e2⟩
theorem nodes_rows (h : DataW.trod enc Tryd.prog W base (fun _ => true) held n 25 cs = some y) (hw : WOk Tryd.prog 25 y.1) : ∃ v L, cs = [v] ∧ Exs (fun _ => True) W v L := by
  haveI : Inhabited Nd := ⟨⟨0, 0, ⟨#[]⟩, 0, 0⟩⟩
  exact rows_open (R := NdR) (sz := 5) (by decide) Tryd.underlying25 k41 y41 (fun n hn => by unfold reachBytes at hn; omega) (fun _ _ _ h _ => node_open h) h hw
theorem texts_rows (h : DataW.trod enc Tryd.prog W base (fun _ => true) held n 47 cs = some y) (hw : WOk Tryd.prog 47 y.1) : ∃ v L, cs = [v] ∧ Txs (fun _ => True) W v L := by
  haveI : Inhabited ByteArray := ⟨⟨#[]⟩⟩
  exact rows_open (R := TxR) (sz := 1) (by decide) Tryd.underlying47 k9 y9 (fun n hn => by unfold reachBytes at hn; omega) (fun _ _ _ h _ => text_open h) h hw
set_option maxRecDepth 100000 in
theorem stmt_open (h : DataW.trod enc Tryd.prog W base (fun _ => true) held n 66 cs = some y) (hw : WOk Tryd.prog 66 y.1) : ∃ a : St, cs.length = 6 ∧ StR (fun _ => True) W cs a := by
  obtain ⟨xs, k, _, hy, hl, hlen, hf⟩ := DataW.trod_struct Tryd.underlying66 h
  subst hy
  rw [k85] at hl
  match cs, hl, xs, hlen with
  | [a0, a1, a2, a3, a4, a5], _, [y0, y1, y2, y3, y4], _ =>
    have f0 : DataW.trod enc Tryd.prog W base (fun _ => true) held k 3 [a0] = some y0 := by simpa [k3] using hf 0 _ rfl
    have f1 : DataW.trod enc Tryd.prog W base (fun _ => true) held k 9 [a1] = some y1 := by simpa [k9] using hf 1 _ rfl
    have f2 : DataW.trod enc Tryd.prog W base (fun _ => true) held k 3 [a2] = some y2 := by simpa [k3] using hf 2 _ rfl
    have f3 : DataW.trod enc Tryd.prog W base (fun _ => true) held k 25 [a3] = some y3 := by simpa [k22] using hf 3 _ rfl
    have f4 : DataW.trod enc Tryd.prog W base (fun _ => true) held k 45 [a4, a5] = some y4 := by simpa [k39] using hf 4 _ rfl
    obtain ⟨n0, e0, _⟩ := DataW.trod_int Tryd.underlying3 f0
    obtain ⟨s1, e1, _⟩ := DataW.trod_string Tryd.underlying9 f1
    obtain ⟨n2, e2, _⟩ := DataW.trod_int Tryd.underlying3 f2
    obtain ⟨v, L, e3, hv⟩ := nodes_rows f3 (hw.field Tryd.underlying66 (j := 3) rfl rfl)
    obtain ⟨l, c, rfl, rfl⟩ := pos_open f4
    simp at e0 e1 e2 e3
    subst e0 e1 e2 e3
    exact ⟨⟨n0, s1, n2, L, l, c⟩, rfl, _, rfl, hv⟩
set_option maxRecDepth 100000 in
theorem next_open (h : DataW.trod enc Tryd.prog W base (fun _ => true) held n 56 cs = some y) (hw : WOk Tryd.prog 56 y.1) : ∃ a : Nx, cs.length = 4 ∧ NxR (fun _ => True) W cs a := by
  obtain ⟨xs, k, _, hy, hl, hlen, hf⟩ := DataW.trod_struct Tryd.underlying56 h
  subst hy
  rw [k73] at hl
  match cs, hl, xs, hlen with
  | [a0, a1, a2, a3], _, [y0, y1, y2], _ =>
    have f0 : DataW.trod enc Tryd.prog W base (fun _ => true) held k 9 [a0] = some y0 := by simpa [k9] using hf 0 _ rfl
    have f1 : DataW.trod enc Tryd.prog W base (fun _ => true) held k 25 [a1] = some y1 := by simpa [k22] using hf 1 _ rfl
    have f2 : DataW.trod enc Tryd.prog W base (fun _ => true) held k 45 [a2, a3] = some y2 := by simpa [k39] using hf 2 _ rfl
    obtain ⟨s0, e0, _⟩ := DataW.trod_string Tryd.underlying9 f0
    obtain ⟨v, L, e1, hv⟩ := nodes_rows f1 (hw.field Tryd.underlying56 (j := 1) rfl rfl)
    obtain ⟨l, c, rfl, rfl⟩ := pos_open f2
    simp at e0 e1
    subst e0 e1
    exact ⟨⟨s0, L, l, c⟩, rfl, _, rfl, hv⟩
theorem stmts_rows (h : DataW.trod enc Tryd.prog W base (fun _ => true) held n 48 cs = some y) (hw : WOk Tryd.prog 48 y.1) : ∃ v L, cs = [v] ∧ Sts (fun _ => True) W v L := by
  haveI : Inhabited St := ⟨⟨0, ⟨#[]⟩, 0, [], 0, 0⟩⟩
  exact rows_open (R := StR) (sz := 6) (by decide) Tryd.underlying48 k85 y85 (fun n hn => by unfold reachBytes at hn; omega) (fun _ _ _ h w => stmt_open h w) h hw
theorem nexts_rows (h : DataW.trod enc Tryd.prog W base (fun _ => true) held n 49 cs = some y) (hw : WOk Tryd.prog 49 y.1) : ∃ v L, cs = [v] ∧ Nxs (fun _ => True) W v L := by
  haveI : Inhabited Nx := ⟨⟨⟨#[]⟩, [], 0, 0⟩⟩
  exact rows_open (R := NxR) (sz := 4) (by decide) Tryd.underlying49 k73 y73 (fun n hn => by unfold reachBytes at hn; omega) (fun _ _ _ h w => next_open h w) h hw
set_option maxRecDepth 100000 in
theorem stage_open (h : DataW.trod enc Tryd.prog W base (fun _ => true) held n 51 cs = some y) (hw : WOk Tryd.prog 51 y.1) : ∃ (s : SgV) (a : Sg), cs = s.cs ∧ SgR (fun _ => True) W s a := by
  obtain ⟨xs, k, _, hy, hl, hlen, hf⟩ := DataW.trod_struct Tryd.underlying51 h
  subst hy
  rw [k68] at hl
  match cs, hl, xs, hlen with
  | [a0, a1, a2, a3, a4], _, [y0, y1, y2, y3, y4], _ =>
    have f0 : DataW.trod enc Tryd.prog W base (fun _ => true) held k 47 [a0] = some y0 := by simpa [k64] using hf 0 _ rfl
    have f1 : DataW.trod enc Tryd.prog W base (fun _ => true) held k 48 [a1] = some y1 := by simpa [k65] using hf 1 _ rfl
    have f2 : DataW.trod enc Tryd.prog W base (fun _ => true) held k 48 [a2] = some y2 := by simpa [k65] using hf 2 _ rfl
    have f3 : DataW.trod enc Tryd.prog W base (fun _ => true) held k 48 [a3] = some y3 := by simpa [k65] using hf 3 _ rfl
    have f4 : DataW.trod enc Tryd.prog W base (fun _ => true) held k 49 [a4] = some y4 := by simpa [k66] using hf 4 _ rfl
    obtain ⟨v0, L0, e0, h0⟩ := texts_rows f0 (hw.field Tryd.underlying51 (j := 0) rfl rfl)
    obtain ⟨v1, L1, e1, h1⟩ := stmts_rows f1 (hw.field Tryd.underlying51 (j := 1) rfl rfl)
    obtain ⟨v2, L2, e2, h2⟩ := stmts_rows f2 (hw.field Tryd.underlying51 (j := 2) rfl rfl)
    obtain ⟨v3, L3, e3, h3⟩ := stmts_rows f3 (hw.field Tryd.underlying51 (j := 3) rfl rfl)
    obtain ⟨v4, L4, e4, h4⟩ := nexts_rows f4 (hw.field Tryd.underlying51 (j := 4) rfl rfl)
    simp at e0 e1 e2 e3 e4
    subst e0 e1 e2 e3 e4
    exact ⟨⟨_, _, _, _, _⟩, ⟨L0, L1, L2, L3, L4⟩, rfl, h0, h1, h2, h3, h4⟩
set_option maxRecDepth 100000 in
theorem arr_open {a b c : Value} (h : DataW.trod enc Tryd.prog W base (fun _ => true) held n 46 [a, b, c] = some y) : ∃ i j k, a = .int .i32 i ∧ b = .int .i32 j ∧ c = .int .i32 k := by
  obtain ⟨zs, k, _, _, _, hlen, hf⟩ := DataW.trod_array u63 h
  match zs, hlen with
  | [z0, z1, z2], _ =>
    have g0 : DataW.trod enc Tryd.prog W base (fun _ => true) held k 21 [a] = some z0 := by simpa [k21] using hf 0 (by decide)
    have g1 : DataW.trod enc Tryd.prog W base (fun _ => true) held k 21 [b] = some z1 := by simpa [k21] using hf 1 (by decide)
    have g2 : DataW.trod enc Tryd.prog W base (fun _ => true) held k 21 [c] = some z2 := by simpa [k21] using hf 2 (by decide)
    obtain ⟨n0, e0, _⟩ := DataW.trod_int Tryd.underlying21 g0
    obtain ⟨n1, e1, _⟩ := DataW.trod_int Tryd.underlying21 g1
    obtain ⟨n2, e2, _⟩ := DataW.trod_int Tryd.underlying21 g2
    simp at e0 e1 e2
    exact ⟨n0, n1, n2, e0, e1, e2⟩
set_option maxRecDepth 100000 in
theorem decl_open (h : DataW.trod enc Tryd.prog W base (fun _ => true) held n 53 cs = some y) (hw : WOk Tryd.prog 53 y.1) : ∃ a : Dc, cs.length = 15 ∧ DcR (fun _ => True) W cs a := by
  obtain ⟨xs, k, _, hy, hl, hlen, hf⟩ := DataW.trod_struct Tryd.underlying53 h
  subst hy
  rw [k70] at hl
  match cs, hl, xs, hlen with
  | [a0, a1, a2, a3, a4, a5, a6, a7, a8, a9, b0, b1, b2, b3, b4], _, [y0, y1, y2, y3, y4, y5, y6, y7], _ =>
    have f0 : DataW.trod enc Tryd.prog W base (fun _ => true) held k 3 [a0] = some y0 := by simpa [k3] using hf 0 _ rfl
    have f1 : DataW.trod enc Tryd.prog W base (fun _ => true) held k 45 [a1, a2] = some y1 := by simpa [k39] using hf 1 _ rfl
    have f2 : DataW.trod enc Tryd.prog W base (fun _ => true) held k 9 [a3] = some y2 := by simpa [k9] using hf 2 _ rfl
    have f3 : DataW.trod enc Tryd.prog W base (fun _ => true) held k 9 [a4] = some y3 := by simpa [k9] using hf 3 _ rfl
    have f4 : DataW.trod enc Tryd.prog W base (fun _ => true) held k 3 [a5] = some y4 := by simpa [k3] using hf 4 _ rfl
    have f5 : DataW.trod enc Tryd.prog W base (fun _ => true) held k 46 [a6, a7, a8] = some y5 := by simpa [k63] using hf 5 _ rfl
    have f6 : DataW.trod enc Tryd.prog W base (fun _ => true) held k 25 [a9] = some y6 := by simpa [k22] using hf 6 _ rfl
    have f7 : DataW.trod enc Tryd.prog W base (fun _ => true) held k 51 [b0, b1, b2, b3, b4] = some y7 := by simpa [k68] using hf 7 _ rfl
    obtain ⟨n0, e0, _⟩ := DataW.trod_int Tryd.underlying3 f0
    obtain ⟨l, c, rfl, rfl⟩ := pos_open f1
    obtain ⟨s2, e2, _⟩ := DataW.trod_string Tryd.underlying9 f2
    obtain ⟨s3, e3, _⟩ := DataW.trod_string Tryd.underlying9 f3
    obtain ⟨n4, e4, _⟩ := DataW.trod_int Tryd.underlying3 f4
    obtain ⟨i, j, m, rfl, rfl, rfl⟩ := arr_open f5
    obtain ⟨v6, L6, e6, h6⟩ := nodes_rows f6 (hw.field Tryd.underlying53 (j := 6) rfl rfl)
    obtain ⟨⟨t0, t1, t2, t3, t4⟩, g, e7, h7⟩ := stage_open f7 (hw.field Tryd.underlying53 (j := 7) rfl rfl)
    simp [SgV.cs] at e0 e2 e3 e4 e6 e7
    obtain ⟨rfl, rfl, rfl, rfl, rfl⟩ := e7
    subst e0 e2 e3 e4 e6
    exact ⟨⟨n0, l, c, s2, s3, n4, i, j, m, L6, g⟩, rfl, _, ⟨_, _, _, _, _⟩, rfl, h6, h7⟩
theorem decls_rows (h : DataW.trod enc Tryd.prog W base (fun _ => true) held n 22 cs = some y) (hw : WOk Tryd.prog 22 y.1) : ∃ v L, cs = [v] ∧ Dcs (fun _ => True) W v L := by
  haveI : Inhabited Dc := ⟨⟨0, 0, 0, ⟨#[]⟩, ⟨#[]⟩, 0, 0, 0, 0, [], ⟨[], [], [], [], []⟩⟩⟩
  exact rows_open (R := DcR) (sz := 15) (by decide) Tryd.underlying22 k70 y70 (fun n hn => by unfold reachBytes at hn; omega) (fun _ _ _ h w => decl_open h w) h hw
set_option maxRecDepth 100000 in
theorem plan_open (h : DataW.trod enc Tryd.prog W base (fun _ => true) held n 24 cs = some y) (hw : WOk Tryd.prog 24 y.1) : ∃ p : Pl, PlR (fun _ => True) W (.agg cs.toArray) p := by
  obtain ⟨xs, k, _, hy, hl, hlen, hf⟩ := DataW.trod_struct Tryd.underlying24 h
  subst hy
  rw [k30] at hl
  match cs, hl, xs, hlen with
  | [a0, a1], _, [y0, y1], _ =>
    have f0 : DataW.trod enc Tryd.prog W base (fun _ => true) held k 9 [a0] = some y0 := by simpa [k9] using hf 0 _ rfl
    have f1 : DataW.trod enc Tryd.prog W base (fun _ => true) held k 22 [a1] = some y1 := by simpa [k28] using hf 1 _ rfl
    obtain ⟨s0, e0, _⟩ := DataW.trod_string Tryd.underlying9 f0
    obtain ⟨v1, L1, e1, h1⟩ := decls_rows f1 (hw.field Tryd.underlying24 (j := 1) rfl rfl)
    simp at e0 e1
    subst e0 e1
    exact ⟨⟨s0, L1⟩, _, rfl, h1⟩
end
end Go.Proofs.YthjdflcakngpiaaDoor
