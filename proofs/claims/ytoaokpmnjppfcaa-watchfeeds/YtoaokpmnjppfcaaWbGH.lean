import Derived.Deep.DeepCutAuto
import Derived.Test.YtoaokpmnjppfcaaWbF
namespace Go.Proofs.Ytoaokpmnjppfcaa
open Go.RowKit
set_option linter.unusedVariables false
set_option linter.unusedSimpArgs false

theorem Has.e2 {w : World} {b : Nat} {x0 x1 x2 x3 x4 x5 x6 x7 x8 x9 x10 : Value} (h : Has w b #[x0, x1, x2, x3, x4, x5, x6, x7, x8, x9, x10]) (y2 : Value) : Has (w.setCell ⟨b, 2, none⟩ y2) b #[x0, x1, y2, x3, x4, x5, x6, x7, x8, x9, x10] := by
  have h1 := (h.set 2 (by simp) y2)
  exact h1
theorem Has.e3 {w : World} {b : Nat} {x0 x1 x2 x3 x4 x5 x6 x7 x8 x9 x10 : Value} (h : Has w b #[x0, x1, x2, x3, x4, x5, x6, x7, x8, x9, x10]) (y3 : Value) : Has (w.setCell ⟨b, 3, none⟩ y3) b #[x0, x1, x2, y3, x4, x5, x6, x7, x8, x9, x10] := by
  have h1 := (h.set 3 (by simp) y3)
  exact h1
theorem Has.e4 {w : World} {b : Nat} {x0 x1 x2 x3 x4 x5 x6 x7 x8 x9 x10 : Value} (h : Has w b #[x0, x1, x2, x3, x4, x5, x6, x7, x8, x9, x10]) (y4 : Value) : Has (w.setCell ⟨b, 4, none⟩ y4) b #[x0, x1, x2, x3, y4, x5, x6, x7, x8, x9, x10] := by
  have h1 := (h.set 4 (by simp) y4)
  exact h1
theorem Has.e5 {w : World} {b : Nat} {x0 x1 x2 x3 x4 x5 x6 x7 x8 x9 x10 : Value} (h : Has w b #[x0, x1, x2, x3, x4, x5, x6, x7, x8, x9, x10]) (y5 : Value) : Has (w.setCell ⟨b, 5, none⟩ y5) b #[x0, x1, x2, x3, x4, y5, x6, x7, x8, x9, x10] := by
  have h1 := (h.set 5 (by simp) y5)
  exact h1
theorem Has.e69 {w : World} {b : Nat} {x0 x1 x2 x3 x4 x5 x6 x7 x8 x9 x10 : Value} (h : Has w b #[x0, x1, x2, x3, x4, x5, x6, x7, x8, x9, x10]) (y6 y7 y8 y9 : Value) : Has ((((w.setCell ⟨b, 6, none⟩ y6).setCell ⟨b, 7, none⟩ y7).setCell ⟨b, 8, none⟩ y8).setCell ⟨b, 9, none⟩ y9) b #[x0, x1, x2, x3, x4, x5, y6, y7, y8, y9, x10] := by
  have h1 := ((((h.set 6 (by simp) y6).set 7 (by simp) y7).set 8 (by simp) y8).set 9 (by simp) y9)
  exact h1
theorem Has.e10 {w : World} {b : Nat} {x0 x1 x2 x3 x4 x5 x6 x7 x8 x9 x10 : Value} (h : Has w b #[x0, x1, x2, x3, x4, x5, x6, x7, x8, x9, x10]) (y10 : Value) : Has (w.setCell ⟨b, 10, none⟩ y10) b #[x0, x1, x2, x3, x4, x5, x6, x7, x8, x9, y10] := by
  have h1 := (h.set 10 (by simp) y10)
  exact h1

theorem Has.grown {w w' : World} {b : Nat} {vs : Array Value} {row : Option Nat} (h : Has w b vs) (hg : w.grownBy w' row) (hn : some b ≠ row) : Has w' b vs := h.blk hg.size (hg.block b h.1 hn)
theorem infoI3 : (Try.prog.info? 3).map (fun i => (i.zero, i.size, i.bytes)) = some (some (.int .i64 0), 1, 8) := by kernel_rfl
theorem makeN (w : World) (n : Nat) (hn : n ≤ 64) : (Instr.makeSlice 62 (.int .i64 (n : Int)) (.int .i64 (n : Int))).run Try.prog w = .ok (.slice (some ⟨w.heap.size, 0, none⟩) n n) (w.alloc (.cells (rwA n64 n (fun _ => 0)) 3)) := by
  obtain ⟨ti, hi, hx⟩ := Option.map_eq_some_iff.1 infoI3
  exact run_make_rw n64_len (by decide) 0 w 62 3 ti _ Try.underlying62 hi (congrArg (·.1) hx) (congrArg (·.2.1) hx) rfl n (by rw [show ti.bytes = 8 from congrArg (·.2.2) hx]; omega) (by omega)
/-- What stands while a monitor begins. -/
structure BS (w wr : World) (b rb n k : Nat) (ga : Option Addr) (gc : Nat) (na : Option Addr) (nc : Nat) (vc vt : Value) : Prop where
  ob : Has wr b #[.slice ga n gc, vc, .int .i64 0, .string ⟨#[]⟩, .slice (some ⟨rb, 0, none⟩) n n, .slice na k nc, .int .i64 0, .int .i64 0, .int .i64 0, .int .i64 0, vt]
  run : Has wr rb (rwA n64 n (fun _ => 0))
  own : wr.ownsRow (rb + 1) 3 1 (.slice na k nc) k (cellsF n64 ((List.range k).map (fun _ => -1)))
  p : w.heap.size ≤ rb
  oo : Only (fun q => q = b) w wr
set_option maxRecDepth 100000 in
set_option maxHeartbeats 400000 in
theorem begin_any {w : World} {b n gc : Nat} {ga : Option Addr} {vc vr vn vt : Value} {tk k0 t0 a0 b0 : Int} {la : ByteArray} (hM : Has w b #[.slice ga n gc, vc, .int .i64 tk, .string la, vr, vn, .int .i64 k0, .int .i64 t0, .int .i64 a0, .int .i64 b0, vt]) (hn : n ≤ 64) :
    Calls Try.prog 20 #[.pointer (some ⟨b, 0, none⟩)] w fun e w' => e = .returned (.tuple #[]) ∧ ∃ rb na nc, BS w w' b rb n n ga gc na nc vc vt := by
  obtain ⟨ti, hi, hx⟩ := Option.map_eq_some_iff.1 infoI3
  have hi0 : ti.zero = some (.int .i64 0) := congrArg (·.1) hx
  have hi1 : ti.size = 1 := congrArg (·.2.1) hx
  have hi2 : ti.bytes = 8 := congrArg (·.2.2) hx
  have hmk := fun W => makeN W n hn
  have hbl := hM.1
  have hbw : Hid (b < w.heap.size) := hbl
  obtain ⟨_, j1, f1⟩ := id hM
  go_enter Try.func20, Try.ntmps20
  go_upto_region 5 with fail
  have S0 : BS w ((((((((((w.setCell ⟨b, 2, none⟩ (.int .i64 0)).setCell ⟨b, 3, none⟩ (.string ⟨#[]⟩)).setCell ⟨b, 6, none⟩ (.int .i64 0)).setCell ⟨b, 7, none⟩ (.int .i64 0)).setCell ⟨b, 8, none⟩ (.int .i64 0)).setCell ⟨b, 9, none⟩ (.int .i64 0))).setCell ⟨b, 4, none⟩ (.slice (some ⟨w.heap.size, 0, none⟩) n n)).setCell ⟨b, 5, none⟩ (.slice none 0 0)).alloc (.cells (rwA n64 n (fun _ => 0)) 3)) b w.heap.size n 0 ga gc none 0 vc vt := by
    have q1 := (((hM.e2 (.int .i64 0)).e3 (.string ⟨#[]⟩)).e69 (.int .i64 0) (.int .i64 0) (.int .i64 0) (.int .i64 0))
    refine ⟨((q1.e4 _).e5 _).alloc _, Has.new _ _ _ (by simp [World.setCell]), World.ownsRow_nil _ _ _ _, Nat.le_refl _, ?_⟩
    exact ((((((((((Only.refl (fun q => q = b) w).set rfl _).set rfl _).set rfl _).set rfl _).set rfl _).set rfl _).set rfl _).set rfl _).alloc _)
  generalize ((((((((((w.setCell ⟨b, 2, none⟩ (.int .i64 0)).setCell ⟨b, 3, none⟩ (.string ⟨#[]⟩)).setCell ⟨b, 6, none⟩ (.int .i64 0)).setCell ⟨b, 7, none⟩ (.int .i64 0)).setCell ⟨b, 8, none⟩ (.int .i64 0)).setCell ⟨b, 9, none⟩ (.int .i64 0))).setCell ⟨b, 4, none⟩ (.slice (some ⟨w.heap.size, 0, none⟩) n n)).setCell ⟨b, 5, none⟩ (.slice none 0 0)).alloc (.cells (rwA n64 n (fun _ => 0)) 3)) = W0 at *
  clear j1 f1 hM hmk
  obtain ⟨_, j1, _⟩ := id S0.ob
  go_wp2
  go_loopg [2] n (fun gk v wr => ∃ (k : Nat) (na : Option Addr) (nc : Nat), k + gk = n ∧ v = .int .i64 (k : Int) ∧ Hid (BS w wr b w.heap.size n k ga gc na nc vc vt))
  case atStart => exact ⟨0, none, 0, by omega, rfl, S0⟩
  case round =>
    clear S0 j1
    obtain ⟨k, na, nc, hk, rfl, hS⟩ := hrel
    have hob := hS.out.ob
    have hrb := hS.out.run.1
    obtain ⟨_, j1, f1⟩ := id hob
    cases gk with
    | zero =>
      obtain rfl : k = n := by omega
      go_wp2
      refine ⟨rfl, .tuple #[], ?_, rfl, w.heap.size, na, nc, hS.out⟩
      simp [results, Try.results20, go_sem]
    | succ g =>
      have hki : (k : Int) < (n : Int) := by omega
      have hk1 : k + 1 ≤ n := by omega
      have hw : IntKind.i64.wrap ((k : Int) + 1) = (k : Int) + 1 := wrap64 _ (by omega)
      go_wp2_with (at_builtin; (refine wpList_append_mine _ rfl _ _ 62 rfl (w.heap.size + 1) 3 ti _ 1 8 Try.underlying62 hi hi0 hi1 hi2 rfl (by decide) (.slice na k nc) k _ rfl (own_bel hS.out.own belN1) ⟨wr.heap.size, 0, none⟩ 1 1 [.int .i64 (-1)] rfl rfl (cells_at (W := wr) rfl _ _) (all_one rfl) (by decide) (by unfold maxLen; omega) (by omega) (by simp; omega) ?_); intro g' cap' w4 o1 o2 o3 o4 o5; have Y5 := (hob.alloc (.cells #[.int .i64 (-1)] 3)).grown o2 (fun e => by have := (own_lt hS.out.own b e.symm).1; have := hS.out.p; omega); clear j1 f1; obtain ⟨_, j1, f1⟩ := id Y5)
      have O4 : Only (fun q => q = b) w w4 := only_grown (hS.out.oo.alloc _) o2 (fun q hq => .inr (by have := (own_lt hS.out.own q hq).1; have := hS.out.p; omega))
      have R4 : Has w4 w.heap.size (rwA n64 n (fun _ => 0)) := (hS.out.run.alloc (.cells #[.int .i64 (-1)] 3)).grown o2 (fun e => by have := (own_lt hS.out.own w.heap.size e.symm).1; omega)
      have ge : w.heap.size + 1 ≤ g' := o3.elim (fun h => (own_lt hS.out.own g' h).1) (fun h => by have : w.heap.size < wr.heap.size := hrb; simp at h; omega)
      have gb : g' ≠ b := fun e => by have := hS.out.p; omega
      have fG : cellsF n64 ((List.range k).map (fun _ => (-1 : Int))) ++ [.int .i64 (-1)] = cellsF n64 ((List.range (k + 1)).map (fun _ => (-1 : Int))) := by rw [List.range_succ, List.map_append, cellsF_append]; rfl
      rw [fG] at o1
      go_roundg g
      case measure => omega
      case rel =>
      refine ⟨k + 1, some ⟨g', 0, none⟩, cap', by omega, by push_cast; rfl, ?_⟩
      exact ⟨Y5.e5 _, R4.far (by omega) _, own_only2 o1 (only_of_set w4 b 5 _) (fun q hq e => by injection hq with hq; exact gb (hq.trans e)), hS.out.p, O4.set rfl _⟩
end Go.Proofs.Ytoaokpmnjppfcaa
namespace Go.Proofs.Ytoaokpmnjppfcaa
open Go.RowKit
set_option linter.unusedVariables false
set_option linter.unusedSimpArgs false

theorem fln_own {α : Type} {sz : Nat} {cs : α → List Value} (hl : ∀ x, (cs x).length = sz) {N : Nat → Prop} {w : World} {base e : Nat} {a : Option Addr} {c : Nat} {L : List α} (h : w.ownsRow base e sz (.slice a L.length c) L.length (cellsF cs L)) (hN : ∀ q, (Value.slice a L.length c).ownBlock = some q → ¬ N q) : FlN sz cs N w (.slice a L.length c) L := by
  refine ⟨a, c, rfl, ?_⟩
  by_cases h0 : 0 < L.length
  · obtain ⟨g, cap, e1, -, -, hg⟩ := own_block h h0
    injection e1 with e1 _ _
    subst e1
    refine .inr ⟨g, 0, rfl, hg, hN g rfl, fun i hi j u hu => ?_⟩
    have hj : j < sz := by have := (List.getElem?_eq_some_iff.1 hu).1; rwa [hl] at this
    rw [Nat.zero_add]
    exact own_reads h rfl _ _ (by rw [cellsF_get hl L i j hi hj]; exact hu)
  · exact .inl (List.length_eq_zero_iff.1 (by omega))
/-- All blocks of a reference monitor. -/
def Ft (b rb : Nat) (vg vc vn vt : Value) (q : Nat) : Prop := Dyn b rb vn vt q ∨ vg.ownBlock = some q ∨ vc.ownBlock = some q
set_option maxRecDepth 100000 in
set_option maxHeartbeats 4000000 in
theorem newR_bad (G : List Gp) (C : List Cf) (vg vc : Value) (w : World) (h1 : Fl 5 Gp.cs w vg G) (h2 : Fl 4 Cf.cs w vc C) (lG : G.length ≤ 2932031007317) (lC : C.length ≤ 4398046511000) (hg : gridB G C = false) :
    Calls Try.prog 7 #[.agg #[vg, vc]] w fun e w' => e = .returned (.tuple #[.pointer none, .int .i64 70]) ∧ Below w.heap.size w w' := by
  have h18 := fun (W : World) (hW : Below w.heap.size w W) => refGrid_any G C vg vc W (h1.below hW) (h2.below hW) lG lC
  rw [hg] at h18
  obtain ⟨ga, gc, rfl, kG⟩ := h1.any
  obtain ⟨ca, qc, rfl, kC⟩ := h2.any
  clear h1 h2 kG kC
  generalize G.length = n at *
  generalize C.length = m at *
  have XB : Below w.heap.size w (w.alloc (.cells #[.slice ga n gc, .slice ca m qc] 25)) := belN1
  go_enter Try.func7, Try.ntmps7
  go_wp2_with (go_at_call 14; (with_reducible refine Calls.mono (h18 _ XB) ?_); rintro e w1 ⟨rfl, hb⟩; replace XB := XB.trans (hb.mono XB.size))
  go_ret2
  exact ⟨rfl, XB⟩
set_option maxRecDepth 100000 in
set_option maxHeartbeats 4000000 in
theorem newR_good (G : List Gp) (C : List Cf) (vg vc : Value) (w : World) (h1 : Fl 5 Gp.cs w vg G) (h2 : Fl 4 Cf.cs w vc C) (lG : G.length ≤ 2932031007317) (lC : C.length ≤ 4398046511000) (hg : gridB G C = true) :
    Calls Try.prog 7 #[.agg #[vg, vc]] w fun e w' => (∃ b rb vg' vc' vn', e = .returned (.tuple #[.pointer (some ⟨b, 0, none⟩), .int .i64 0]) ∧ Rm w' b rb vg' vc' vn' (.slice none 0 0) G C 0 ⟨#[]⟩ (fun _ => 0) (fun _ => -1) al0 [] ∧ ∀ q, Ft b rb vg' vc' vn' (.slice none 0 0) q → w.heap.size ≤ q ∧ q < w'.heap.size) ∧ Below w.heap.size w w' := by
  have h18 := fun (W : World) (hW : Below w.heap.size w W) => refGrid_any G C vg vc W (h1.below hW) (h2.below hW) lG lC
  rw [hg] at h18
  have n64 := grid_len hg
  obtain ⟨ga, gc, rfl, -⟩ := h1.any
  obtain ⟨ca, qc, rfl, -⟩ := h2.any
  have hG : ∀ W : World, Below w.heap.size w W → (∀ ad, ga = some ad → ∀ j u, (cellsF Gp.cs G)[j]? = some u → W.cell? (ad.add j) = some u) ∧ (ga = none → G.length = 0) ∧ (cellsF Gp.cs G).length = G.length * 5 := fun W hW => ⟨(fl_src gp_len (by decide) (h1.below hW)).1, (fl_src gp_len (by decide) (h1.below hW)).2, cellsF_len gp_len _⟩
  have hC : ∀ W : World, Below w.heap.size w W → (∀ ad, ca = some ad → ∀ j u, (cellsF Cf.cs C)[j]? = some u → W.cell? (ad.add j) = some u) ∧ (ca = none → C.length = 0) ∧ (cellsF Cf.cs C).length = C.length * 4 := fun W hW => ⟨(fl_src cf_len (by decide) (h2.below hW)).1, (fl_src cf_len (by decide) (h2.below hW)).2, cellsF_len cf_len _⟩
  have gone := cellsF_one gp_one G
  have cone := cellsF_one cf_one C
  clear h1 h2 hg
  obtain ⟨i44, hi, hi0, hi1, hi2⟩ := info_parts info44
  obtain ⟨i47, hj, hj0, hj1, hj2⟩ := info_parts info47
  obtain ⟨n, hn⟩ : ∃ n, G.length = n := ⟨_, rfl⟩
  obtain ⟨m, hm⟩ : ∃ m, C.length = m := ⟨_, rfl⟩
  have hn' : Hid (G.length = n) := hn
  have hm' : Hid (C.length = m) := hm
  rw [hn] at h18 hG lG n64
  rw [hm] at h18 hC lC
  rw [hn] at ⊢
  rw [hm] at ⊢
  clear hn hm
  have X1 : Has (w.alloc (.cells #[.slice ga n gc, .slice ca m qc] 25)) w.heap.size #[.slice ga n gc, .slice ca m qc] := Has.new _ _ _ rfl
  have XB : Below w.heap.size w (w.alloc (.cells #[.slice ga n gc, .slice ca m qc] 25)) := belN1
  have h20 := fun (W : World) (b : Nat) (a1 a2 : Option Addr) (c1 c2 : Nat) (h : Has W b #[.slice a1 n c1, .slice a2 m c2, .int .i64 0, .string ⟨#[]⟩, .slice none 0 0, .slice none 0 0, .int .i64 0, .int .i64 0, .int .i64 0, .int .i64 0, .slice none 0 0]) => begin_any h n64
  go_enter Try.func7, Try.ntmps7
  go_upto_region 3 with (go_at_call 14; (with_reducible refine Calls.mono (h18 _ XB) ?_); rintro e V ⟨rfl, hb⟩; replace XB := XB.trans (hb.mono XB.size); replace X1 := X1.below hb; obtain ⟨_, i1, _⟩ := id X1)
  clear hb h18
  have z0 : w.heap.size + 1 ≤ V.heap.size := X1.1
  have HBd := XB.drew
  have H1d := X1.drew
  go_region_held3 (fun w' => w'.cell? ⟨w.heap.size, 0, none⟩ = some (.slice ga n gc) ∧ w'.cell? ⟨w.heap.size, 1, none⟩ = some (.slice ca m qc)) (first | exact has2 (by assumption) | go_keep) (first
    | (refine step_copy rfl _ _ 22 rfl 66 i44 _ 5 48 Try.underlying22 hi hi0 hi1 hi2 rfl (by decide) ga n gc (cellsF Gp.cs G) rfl rfl (hG _ (by assumption)).2.2 (hG _ (by assumption)).1 gone (hG _ (by assumption)).2.1 (by unfold maxLen; omega) (by omega) ?_; intro a1 c1 w1 own1 hb1;  have HB1 : Below w.heap.size w w1 := bel_after (by assumption) (Below.size (B := w.heap.size) (by assumption)) hb1; have J1 : Has w1 w.heap.size #[.slice ga n gc, .slice ca m qc] := Has.below (by assumption) hb1; obtain ⟨_, f1, _⟩ := id J1)
    | (refine step_copy rfl _ _ 23 rfl 68 i47 _ 4 32 Try.underlying23 hj hj0 hj1 hj2 rfl (by decide) ca m qc (cellsF Cf.cs C) rfl rfl (hC _ (by assumption)).2.2 (hC _ (by assumption)).1 cone (hC _ (by assumption)).2.1 (by unfold maxLen; omega) (by omega) ?_; intro a2 c2 w2 own2 hb2;  have HB2 : Below w.heap.size w w2 := bel_after (by assumption) (Below.size (B := w.heap.size) (by assumption)) hb2; have J2 : Has w2 w.heap.size #[.slice ga n gc, .slice ca m qc] := Has.below (by assumption) hb2; obtain ⟨_, f2, _⟩ := id J2))
  have zd : V.drew.heap.size = V.heap.size := rfl
  have own1' := own_bel own1 hb2
  have q1 := fun q hq => own_lt own1 q hq
  have q2 := fun q hq => own_lt own2 q hq
  have zs := hb2.size
  have zt := hb1.size
  have XN : Has (w2.alloc (.cells #[.slice a1 n c1, .slice a2 m c2, .int .i64 0, .string ⟨#[]⟩, .slice none 0 0, .slice none 0 0, .int .i64 0, .int .i64 0, .int .i64 0, .int .i64 0, .slice none 0 0] 64)) w2.heap.size #[.slice a1 n c1, .slice a2 m c2, .int .i64 0, .string ⟨#[]⟩, .slice none 0 0, .slice none 0 0, .int .i64 0, .int .i64 0, .int .i64 0, .int .i64 0, .slice none 0 0] := Has.new _ _ _ rfl
  have o1 := own_bel own1' (belN1 (o1 := .cells #[.slice a1 n c1, .slice a2 m c2, .int .i64 0, .string ⟨#[]⟩, .slice none 0 0, .slice none 0 0, .int .i64 0, .int .i64 0, .int .i64 0, .int .i64 0, .slice none 0 0] 64))
  have o2 := own_bel own2 (belN1 (o1 := .cells #[.slice a1 n c1, .slice a2 m c2, .int .i64 0, .string ⟨#[]⟩, .slice none 0 0, .slice none 0 0, .int .i64 0, .int .i64 0, .int .i64 0, .int .i64 0, .slice none 0 0] 64))
  have BN := HB2.alloc (o := .cells #[.slice a1 n c1, .slice a2 m c2, .int .i64 0, .string ⟨#[]⟩, .slice none 0 0, .slice none 0 0, .int .i64 0, .int .i64 0, .int .i64 0, .int .i64 0, .slice none 0 0] 64) HB2.size
  have hsz : (w2.alloc (.cells #[.slice a1 n c1, .slice a2 m c2, .int .i64 0, .string ⟨#[]⟩, .slice none 0 0, .slice none 0 0, .int .i64 0, .int .i64 0, .int .i64 0, .int .i64 0, .slice none 0 0] 64)).heap.size = w2.heap.size + 1 := by simp
  clear own1 own2 own1' hb1 hb2 HB1 HB2 J1 J2 f1 f2 HBd H1d hG hC gone cone hi hi0 hi1 hi2 hj hj0 hj1 hj2 X1 XB i1
  generalize hb0 : w2.heap.size = b at *
  generalize (w2.alloc (.cells #[.slice a1 n c1, .slice a2 m c2, .int .i64 0, .string ⟨#[]⟩, .slice none 0 0, .slice none 0 0, .int .i64 0, .int .i64 0, .int .i64 0, .int .i64 0, .slice none 0 0] 64)) = W3 at *
  go_wp2_with (go_at_call 20; (with_reducible refine Calls.mono (h20 _ _ _ _ _ _ XN) ?_); rintro e w4 ⟨rfl, rb, na, nc, hS⟩)
  go_ret2
  have p1 := hS.p
  have s0 : (Value.slice none 0 0).ownBlock = none := rfl
  have en := hn'.out
  have em := hm'.out
  subst en em
  have nn := fun q hq => own_lt hS.own q hq
  have r1 := own_only2 o1 hS.oo (fun q hq e => by have := (q1 q hq).2; omega)
  have r2 := own_only2 o2 hS.oo (fun q hq e => by have := (q2 q hq).2; omega)
  have D : ∀ q, (Value.slice a1 G.length c1).ownBlock = some q ∨ (Value.slice a2 C.length c2).ownBlock = some q → ¬ Dyn b rb (.slice na G.length nc) (.slice none 0 0) q := by
    intro q hq hd
    have l1 : q < b ∧ q < W3.heap.size := hq.elim (fun h => by have := (q1 q h).2; omega) (fun h => by have := (q2 q h).2; omega)
    rcases hd with h | h | h | h
    · omega
    · omega
    · have := (nn q h).1; omega
    · cases h
  refine ⟨⟨b, rb, .slice a1 G.length c1, .slice a2 C.length c2, .slice na G.length nc, rfl, ⟨hS.ob, hS.run, own_base hS.own (Nat.zero_le _), World.ownsRow_nil _ _ _ _, fln_own gp_len r1 (fun q hq => D q (.inl hq)), fln_own cf_len r2 (fun q hq => D q (.inr hq)), by omega, ⟨fun e => by have := (nn _ e).1; omega, fun e => by have := (nn _ e).1; omega⟩, ⟨by simp [s0], by simp [s0]⟩, fun q _ => by simp [s0]⟩, ?_⟩, ?_⟩
  · intro q hq
    have bz := BN.size
    rcases hq with (h | h | h | h) | h | h
    · have := hS.ob.1; omega
    · have := hS.run.1; omega
    · have := nn q h; omega
    · cases h
    · have := (q1 q h).1; have := (own_lt r1 q h).2; omega
    · have := (q2 q h).1; have := (own_lt r2 q h).2; omega
  · exact bel_only BN hS.oo (Nat.le_refl _) (fun q hq e => by omega)
end Go.Proofs.Ytoaokpmnjppfcaa
