import Derived.Deep.DeepCutAuto
import Derived.Test.YtoaokpmnjppfcaaWbF
namespace Go.Proofs.Ytoaokpmnjppfcaa
open Go.RowKit
set_option linter.unusedVariables false
set_option linter.unusedSimpArgs false

theorem Has.e2 {w : World} {b : Nat} {x0 x1 x2 x3 x4 x5 x6 x7 x8 x9 x10 : Value} (h : Has w b #[x0, x1, x2, x3, x4, x5, x6, x7, x8, x9, x10]) (y2 : Value) : Has (w.setCell ⟨b, 2, none⟩ y2) b #[x0, x1, y2, x3, x4, x5, x6, x7, x8, x9, x10] := by
  have h1 := (h.set 2 (by simp) y2)
  exact h1
theorem Has.e3 {w : World} {b : Nat} {x0 x1 x2 x3 x4 x5 x6 x7 x8 x9 x10 : Value} (h : Has w b #[x0, x1, x2, x3, x4, x5, x6, x7, x8, x9, x10]) (y3 : Value) : Has (w.setCell ⟨b, 3, none⟩ y3) b #[x0, x1, x2, y3, x4, x5, x6, x7, x8, x9, x10] := by
  have h1 := (h.set 3 (by simp) y3)
  exact h1
theorem Has.e4 {w : World} {b : Nat} {x0 x1 x2 x3 x4 x5 x6 x7 x8 x9 x10 : Value} (h : Has w b #[x0, x1, x2, x3, x4, x5, x6, x7, x8, x9, x10]) (y4 : Value) : Has (w.setCell ⟨b, 4, none⟩ y4) b #[x0, x1, x2, x3, y4, x5, x6, x7, x8, x9, x10] := by
  have h1 := (h.set 4 (by simp) y4)
  exact h1
theorem Has.e5 {w : World} {b : Nat} {x0 x1 x2 x3 x4 x5 x6 x7 x8 x9 x10 : Value} (h : Has w b #[x0, x1, x2, x3, x4, x5, x6, x7, x8, x9, x10]) (y5 : Value) : Has (w.setCell ⟨b, 5, none⟩ y5) b #[x0, x1, x2, x3, x4, y5, x6, x7, x8, x9, x10] := by
  have h1 := (h.set 5 (by simp) y5)
  exact h1
theorem Has.e69 {w : World} {b : Nat} {x0 x1 x2 x3 x4 x5 x6 x7 x8 x9 x10 : Value} (h : Has w b #[x0, x1, x2, x3, x4, x5, x6, x7, x8, x9, x10]) (y6 y7 y8 y9 : Value) : Has ((((w.setCell ⟨b, 6, none⟩ y6).setCell ⟨b, 7, none⟩ y7).setCell ⟨b, 8, none⟩ y8).setCell ⟨b, 9, none⟩ y9) b #[x0, x1, x2, x3, x4, x5, y6, y7, y8, y9, x10] := by
  have h1 := ((((h.set 6 (by simp) y6).set 7 (by simp) y7).set 8 (by simp) y8).set 9 (by simp) y9)
  exact h1
theorem Has.e10 {w : World} {b : Nat} {x0 x1 x2 x3 x4 x5 x6 x7 x8 x9 x10 : Value} (h : Has w b #[x0, x1, x2, x3, x4, x5, x6, x7, x8, x9, x10]) (y10 : Value) : Has (w.setCell ⟨b, 10, none⟩ y10) b #[x0, x1, x2, x3, x4, x5, x6, x7, x8, x9, y10] := by
  have h1 := (h.set 10 (by simp) y10)
  exact h1

theorem Has.grown {w w' : World} {b : Nat} {vs : Array Value} {row : Option Nat} (h : Has w b vs) (hg : w.grownBy w' row) (hn : some b ≠ row) : Has w' b vs := h.blk hg.size (hg.block b h.1 hn)
theorem infoI3 : (Try.prog.info? 3).map (fun i => (i.zero, i.size, i.bytes)) = some (some (.int .i64 0), 1, 8) := by kernel_rfl
theorem makeN (w : World) (n : Nat) (hn : n ≤ 64) : (Instr.makeSlice 62 (.int .i64 (n : Int)) (.int .i64 (n : Int))).run Try.prog w = .ok (.slice (some ⟨w.heap.size, 0, none⟩) n n) (w.alloc (.cells (rwA n64 n (fun _ => 0)) 3)) := by
  obtain ⟨ti, hi, hx⟩ := Option.map_eq_some_iff.1 infoI3
  exact run_make_rw n64_len (by decide) 0 w 62 3 ti _ Try.underlying62 hi (congrArg (·.1) hx) (congrArg (·.2.1) hx) rfl n (by rw [show ti.bytes = 8 from congrArg (·.2.2) hx]; omega) (by omega)
/-- What stands while a monitor begins. -/
structure BS (w wr : World) (b rb n k : Nat) (ga : Option Addr) (gc : Nat) (na : Option Addr) (nc : Nat) (vc vt : Value) : Prop where
  ob : Has wr b #[.slice ga n gc, vc, .int .i64 0, .string ⟨#[]⟩, .slice (some ⟨rb, 0, none⟩) n n, .slice na k nc, .int .i64 0, .int .i64 0, .int .i64 0, .int .i64 0, vt]
  run : Has wr rb (rwA n64 n (fun _ => 0))
  own : wr.ownsRow (rb + 1) 3 1 (.slice na k nc) k (cellsF n64 ((List.range k).map (fun _ => -1)))
  p : w.heap.size ≤ rb
  oo : Only (fun q => q = b) w wr
set_option maxRecDepth 100000 in
set_option maxHeartbeats 400000 in
theorem begin_any {w : World} {b n gc : Nat} {ga : Option Addr} {vc vr vn vt : Value} {tk k0 t0 a0 b0 : Int} {la : ByteArray} (hM : Has w b #[.slice ga n gc, vc, .int .i64 tk, .string la, vr, vn, .int .i64 k0, .int .i64 t0, .int .i64 a0, .int .i64 b0, vt]) (hn : n ≤ 64) :
    Calls Try.prog 20 #[.pointer (some ⟨b, 0, none⟩)] w fun e w' => e = .returned (.tuple #[]) ∧ ∃ rb na nc, BS w w' b rb n n ga gc na nc vc vt := by
  obtain ⟨ti, hi, hx⟩ := Option.map_eq_some_iff.1 infoI3
  have hi0 : ti.zero = some (.int .i64 0) := congrArg (·.1) hx
  have hi1 : ti.size = 1 := congrArg (·.2.1) hx
  have hi2 : ti.bytes = 8 := congrArg (·.2.2) hx
  have hmk := fun W => makeN W n hn
  have hbl := hM.1
  have hbw : Hid (b < w.heap.size) := hbl
  obtain ⟨_, j1, f1⟩ := id hM
  go_enter Try.func20, Try.ntmps20
  go_upto_region 5 with fail
  have S0 : BS w ((((((((((w.setCell ⟨b, 2, none⟩ (.int .i64 0)).setCell ⟨b, 3, none⟩ (.string ⟨#[]⟩)).setCell ⟨b, 6, none⟩ (.int .i64 0)).setCell ⟨b, 7, none⟩ (.int .i64 0)).setCell ⟨b, 8, none⟩ (.int .i64 0)).setCell ⟨b, 9, none⟩ (.int .i64 0))).setCell ⟨b, 4, none⟩ (.slice (some ⟨w.heap.size, 0, none⟩) n n)).setCell ⟨b, 5, none⟩ (.slice none 0 0)).alloc (.cells (rwA n64 n (fun _ => 0)) 3)) b w.heap.size n 0 ga gc none 0 vc vt := by
    have q1 := (((hM.e2 (.int .i64 0)).e3 (.string ⟨#[]⟩)).e69 (.int .i64 0) (.int .i64 0) (.int .i64 0) (.int .i64 0))
    refine ⟨((q1.e4 _).e5 _).alloc _, Has.new _ _ _ (by simp [World.setCell]), World.ownsRow_nil _ _ _ _, Nat.le_refl _, ?_⟩
    exact ((((((((((Only.refl (fun q => q = b) w).set rfl _).set rfl _).set rfl _).set rfl _).set rfl _).set rfl _).set rfl _).set rfl _).alloc _)
  generalize ((((((((((w.setCell ⟨b, 2, none⟩ (.int .i64 0)).setCell ⟨b, 3, none⟩ (.string ⟨#[]⟩)).setCell ⟨b, 6, none⟩ (.int .i64 0)).setCell ⟨b, 7, none⟩ (.int .i64 0)).setCell ⟨b, 8, none⟩ (.int .i64 0)).setCell ⟨b, 9, none⟩ (.int .i64 0))).setCell ⟨b, 4, none⟩ (.slice (some ⟨w.heap.size, 0, none⟩) n n)).setCell ⟨b, 5, none⟩ (.slice none 0 0)).alloc (.cells (rwA n64 n (fun _ => 0)) 3)) = W0 at *
  clear j1 f1 hM hmk
  obtain ⟨_, j1, _⟩ := id S0.ob
  go_wp2
  go_loopg [2] n (fun gk v wr => ∃ (k : Nat) (na : Option Addr) (nc : Nat), k + gk = n ∧ v = .int .i64 (k : Int) ∧ Hid (BS w wr b w.heap.size n k ga gc na nc vc vt))
  case atStart => exact ⟨0, none, 0, by omega, rfl, S0⟩
  case round =>
    clear S0 j1
    obtain ⟨k, na, nc, hk, rfl, hS⟩ := hrel
    have hob := hS.out.ob
    have hrb := hS.out.run.1
    obtain ⟨_, j1, f1⟩ := id hob
    cases gk with
    | zero =>
      obtain rfl : k = n := by omega
      go_wp2
      refine ⟨rfl, .tuple #[], ?_, rfl, w.heap.size, na, nc, hS.out⟩
      simp [results, Try.results20, go_sem]
    | succ g =>
      have hki : (k : Int) < (n : Int) := by omega
      have hk1 : k + 1 ≤ n := by omega
      have hw : IntKind.i64.wrap ((k : Int) + 1) = (k : Int) + 1 := wrap64 _ (by omega)
      go_wp2_with (at_builtin; (refine wpList_append_mine _ rfl _ _ 62 rfl (w.heap.size + 1) 3 ti _ 1 8 Try.underlying62 hi hi0 hi1 hi2 rfl (by decide) (.slice na k nc) k _ rfl (own_bel hS.out.own belN1) ⟨wr.heap.size, 0, none⟩ 1 1 [.int .i64 (-1)] rfl rfl (cells_at (W := wr) rfl _ _) (all_one rfl) (by decide) (by unfold maxLen; omega) (by omega) (by simp; omega) ?_); intro g' cap' w4 o1 o2 o3 o4 o5; have Y5 := (hob.alloc (.cells #[.int .i64 (-1)] 3)).grown o2 (fun e => by have := (own_lt hS.out.own b e.symm).1; have := hS.out.p; omega); clear j1 f1; obtain ⟨_, j1, f1⟩ := id Y5)
      have O4 : Only (fun q => q = b) w w4 := only_grown (hS.out.oo.alloc _) o2 (fun q hq => .inr (by have := (own_lt hS.out.own q hq).1; have := hS.out.p; omega))
      have R4 : Has w4 w.heap.size (rwA n64 n (fun _ => 0)) := (hS.out.run.alloc (.cells #[.int .i64 (-1)] 3)).grown o2 (fun e => by have := (own_lt hS.out.own w.heap.size e.symm).1; omega)
      have ge : w.heap.size + 1 ≤ g' := o3.elim (fun h => (own_lt hS.out.own g' h).1) (fun h => by have : w.heap.size < wr.heap.size := hrb; simp at h; omega)
      have gb : g' ≠ b := fun e => by have := hS.out.p; omega
      have fG : cellsF n64 ((List.range k).map (fun _ => (-1 : Int))) ++ [.int .i64 (-1)] = cellsF n64 ((List.range (k + 1)).map (fun _ => (-1 : Int))) := by rw [List.range_succ, List.map_append, cellsF_append]; rfl
      rw [fG] at o1
      go_roundg g
      case measure => omega
      case rel =>
      refine ⟨k + 1, some ⟨g', 0, none⟩, cap', by omega, by push_cast; rfl, ?_⟩
      exact ⟨Y5.e5 _, R4.far (by omega) _, own_only2 o1 (only_of_set w4 b 5 _) (fun q hq e => by injection hq with hq; exact gb (hq.trans e)), hS.out.p, O4.set rfl _⟩
end Go.Proofs.Ytoaokpmnjppfcaa
