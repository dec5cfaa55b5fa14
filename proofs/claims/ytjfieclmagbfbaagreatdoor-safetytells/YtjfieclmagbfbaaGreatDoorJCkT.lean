import Derived.Test.YtjfieclmagbfbaaGreatDoorRows
import Derived.ProofKit
import Derived.LaidMore
import Derived.OpenShut
import Derived.Stop.Joined
import Derived.Stop.LaidErr
import Derived.Lib.LaidTab
import Derived.Test.YtjfieclmagbfbaaGreatDoorCkB
import Derived.Test.YtjfieclmagbfbaaGreatDoorMaN
set_option linter.unusedSimpArgs false
set_option maxRecDepth 100000
set_option maxHeartbeats 8000000
namespace Go.Proofs.YtjfieclmagbfbaaGreatDoor
open Go.ChangeShapes Go.WideShapes Go.ChangeAt Go.RowKit
def strData {H : Type} (zs : List (List UInt8)) : DataW H := .agg (zs.map fun z => .lit (.string z))
theorem cells_of_strs {H : Type} {enc : TypeId × Value → H} {P : Program} {w : World} {base : Nat} {sp : Nat → Bool} {held : Bool} {fuel : Nat} {t e : TypeId} {n : Nat} {cs : List Value} {zs : List (List UInt8)} {p : List MemPlace}
  (ht : P.underlying t = some (.array n e)) (he : P.underlying e = some .string) (hce : P.cellsOf e = 1) (hct : P.cellsOf t = n)
  (h : DataW.trod enc P w base sp held fuel t cs = some (strData zs, p)) : cs = zs.map fun z => Value.string (bs z) := by
 cases fuel with
 | zero => simp [DataW.trod] at h
 | succ fuel =>
   simp only [DataW.trod, ht, hce, hct, Nat.mul_one] at h; split at h
   ·rename_i hl
    obtain ⟨xs, hm, hx⟩ := Option.map_eq_some_iff.1 h; have hxs : xs.map (·.1) = zs.map fun z => (DataW.lit (.string z) : DataW H) := by
     have := congrArg Prod.fst hx
     simpa [strData] using this
    have hxl : xs.length = n := by simpa using Lib.mapM_length hm
    have hzl : zs.length = n := by
     have := congrArg List.length hxs; simp at this; omega
    apply List.ext_getElem?
    intro i
    by_cases hi : i < n
    ·obtain ⟨b, hb, hf⟩ := Lib.mapM_at hm i i (by simp [hi])
     obtain ⟨z, hc, rfl, _⟩ := DataW.trod_string he hf; have h1 : cs[i]? = some (.string z) := by
      have := congrArg (·[0]?) hc
      simpa [List.getElem?_take, List.getElem?_drop] using this
     have h2 : (xs.map (·.1))[i]? = some (DataW.lit (.string z.data.toList) : DataW H) := by simp [hb]
     rw [hxs] at h2; simp only [List.getElem?_map, Option.map_eq_some_iff, DataW.lit.injEq, Lit.string.injEq] at h2; obtain ⟨z', hz', e'⟩ := h2; subst e'; simp [h1, hz', bs]
    ·rw [List.getElem?_eq_none (by omega), List.getElem?_eq_none (by simp; omega)]
   ·cases h
theorem strs_of_head {P : Program} {W : World} {name : String} {zs : List (List UInt8)} {rest : List (String × DataW Unit)} {g : Nat} {t e : TypeId} {n : Nat}
  (hg : P.globalNamed name = some g) (hty : (P.globals[g]?).map (·.type) = some t) (ht : P.underlying t = some (.array n e)) (he : P.underlying e = some .string) (hce : P.cellsOf e = 1) (hct : P.cellsOf t = n)
  (h : laidMet P ((name, strData zs) :: rest) W) : ∀ i, i < zs.length → W.cell? ⟨g, i, none⟩ = some (.string (bs (zs.getD i []))) := by
 obtain ⟨ps, ⟨g', t', cs, fuel, p, q, hg', ht', hvar, hd, _, _⟩, _⟩ := h
 obtain rfl := Option.some.inj (hg.symm.trans hg')
 obtain rfl := Option.some.inj (hty.symm.trans ht')
 intro i hi
 have h1 := World.var?_cell hg hvar i
 have h2 := cells_of_strs ht he hce hct hd
 rw [h1]
 have h3 : cs[i]? = some (.string (bs (zs.getD i []))) := by
  rw [← Array.getElem?_toList, h2]; simp [List.getD, hi]
 exact h3
theorem own : ownKnob Tryz.prog.godebug = none := by kernel_rfl
theorem laidOut : laidOutB Tryz.prog = true := by kernel_rfl
theorem g0 : Tryz.prog.globalNamed "junction/lex.words" = some 3 := by kernel_rfl
theorem g1 : Tryz.prog.globalNamed "junction/junctionref2.words" = some 1 := by kernel_rfl
theorem g2 : Tryz.prog.globalNamed "junction/junctionref2.signs" = some 2 := by kernel_rfl
theorem tg0 : (Tryz.prog.globals[3]?).map (·.type) = some 247 := by kernel_rfl
theorem tg1 : (Tryz.prog.globals[1]?).map (·.type) = some 168 := by kernel_rfl
theorem tg2 : (Tryz.prog.globals[2]?).map (·.type) = some 169 := by kernel_rfl
theorem u54 : Tryz.prog.underlying 247 = some (.array 78 9) := by kernel_rfl
theorem u55 : Tryz.prog.underlying 168 = some (.array 41 9) := by kernel_rfl
theorem u56 : Tryz.prog.underlying 169 = some (.array 18 9) := by kernel_rfl
theorem c9 : Tryz.prog.cellsOf 9 = 1 := by kernel_rfl
theorem c54 : Tryz.prog.cellsOf 247 = 78 := by kernel_rfl
theorem c55 : Tryz.prog.cellsOf 168 = 41 := by kernel_rfl
theorem c56 : Tryz.prog.cellsOf 169 = 18 := by kernel_rfl
def wdL : List (List UInt8) := (List.range 78).map wordL
theorem wdL_get (i : Nat) (h : i < 78) : wdL.getD i [] = wordL i := by simp [wdL, List.getD, h]
theorem lt_of_cell {W : World} {b o : Nat} {v : Value} (h : W.cell? ⟨b, o, none⟩ = some v) : b < W.heap.size := by
 rcases Nat.lt_or_ge b W.heap.size with h0 | h0
 ·exact h0
 ·have : W.heap[b]? = none := by simp [h0]
  simp [World.cell?, this] at h
theorem g3n : Tryz.prog.globalNamed "junction/safety.needs" = some 0 := by kernel_rfl
theorem tg3n : (Tryz.prog.globals[0]?).map (·.type) = some 127 := by kernel_rfl
theorem c126n : Tryz.prog.cellsOf 126 = 3 := by kernel_rfl
theorem c127n : Tryz.prog.cellsOf 127 = 9 := by kernel_rfl
section
variable {H : Type} {enc : TypeId × Value → H} {W : World} {base n : Nat} {held : Bool} {sp : Nat → Bool} {cs : List Value} {p : List MemPlace}
theorem need_open {a b c : Int} (h : DataW.trod enc Tryz.prog W base sp held n 126 cs = some (.agg [.lit (.int .i64 a), .lit (.int .i64 b), .lit (.int .i64 c)], p)) : cs = [.int .i64 a, .int .i64 b, .int .i64 c] := by
 obtain ⟨xs, k, _, hy, hl, hlen, hf⟩ := DataW.trod_struct Tryz.underlying126 h
 rw [c126n] at hl
 match cs, hl, xs, hlen with
 | [a0, a1, a2], _, [y0, y1, y2], _ =>
   have f0 : DataW.trod enc Tryz.prog W base sp held k 3 [a0] = some y0 := by simpa [k3] using hf 0 _ rfl
   have f1 : DataW.trod enc Tryz.prog W base sp held k 3 [a1] = some y1 := by simpa [k3] using hf 1 _ rfl
   have f2 : DataW.trod enc Tryz.prog W base sp held k 3 [a2] = some y2 := by simpa [k3] using hf 2 _ rfl
   obtain ⟨n0, e0, d0, _⟩ := DataW.trod_int Tryz.underlying3 f0; obtain ⟨n1, e1, d1, _⟩ := DataW.trod_int Tryz.underlying3 f1; obtain ⟨n2, e2, d2, _⟩ := DataW.trod_int Tryz.underlying3 f2; subst d0 d1 d2; simp at e0 e1 e2 hy; simp [e0, e1, e2, hy]
theorem needs_open {a0 b0 c0 a1 b1 c1 a2 b2 c2 : Int} (h : DataW.trod enc Tryz.prog W base sp held n 127 cs = some (.agg [.agg [.lit (.int .i64 a0), .lit (.int .i64 b0), .lit (.int .i64 c0)], .agg [.lit (.int .i64 a1), .lit (.int .i64 b1), .lit (.int .i64 c1)], .agg [.lit (.int .i64 a2), .lit (.int .i64 b2), .lit (.int .i64 c2)]], p)) :
  cs = [.int .i64 a0, .int .i64 b0, .int .i64 c0, .int .i64 a1, .int .i64 b1, .int .i64 c1, .int .i64 a2, .int .i64 b2, .int .i64 c2] := by
 obtain ⟨xs, k, _, hy, hl, hlen, hf⟩ := DataW.trod_array Tryz.underlying127 h
 rw [c127n] at hl
 match cs, hl, xs, hlen with
 | [x0, x1, x2, x3, x4, x5, x6, x7, x8], _, [⟨y0, p0⟩, ⟨y1, p1⟩, ⟨y2, p2⟩], _ =>
   have f0 : DataW.trod enc Tryz.prog W base sp held k 126 [x0, x1, x2] = some (y0, p0) := by simpa [c126n] using hf 0 (by omega)
   have f1 : DataW.trod enc Tryz.prog W base sp held k 126 [x3, x4, x5] = some (y1, p1) := by simpa [c126n] using hf 1 (by omega)
   have f2 : DataW.trod enc Tryz.prog W base sp held k 126 [x6, x7, x8] = some (y2, p2) := by simpa [c126n] using hf 2 (by omega)
   simp at hy; obtain ⟨⟨r0, r1, r2⟩, _⟩ := hy; subst r0 r1 r2; have e0 := need_open f0; have e1 := need_open f1; have e2 := need_open f2; simp at e0 e1 e2; simp [e0, e1, e2]
end
theorem ndt_of_head {W : World} {rest : List (String × DataW Unit)} (h : laidMet Tryz.prog (("junction/safety.needs", Rows.laid_junction_safety_needs) :: rest) W) : Ndt W := by
 obtain ⟨ps, ⟨g', t', cs, fuel, p, q, hg', ht', hvar, hd, _, _⟩, _⟩ := h
 obtain rfl := Option.some.inj (g3n.symm.trans hg')
 obtain rfl := Option.some.inj (tg3n.symm.trans ht')
 have h2 := needs_open hd
 have h1 : ∀ i, W.cell? ⟨0, i, none⟩ = cs.toList[i]? := fun i => by rw [World.var?_cell g3n hvar i, Array.getElem?_toList]
 rw [h2] at h1
 refine ⟨lt_of_cell (h1 0), fun s hs => ?_⟩
 match s, hs with
 | 0, _ => exact ⟨h1 0, h1 1, h1 2⟩
 | 1, _ => exact ⟨h1 3, h1 4, h1 5⟩
 | 2, _ => exact ⟨h1 6, h1 7, h1 8⟩
def laidN : List (String × DataW Unit) := [("junction/junctionref2.words", Rows.laid_junction_junctionref2_words), ("junction/junctionref2.signs", Rows.laid_junction_junctionref2_signs), ("junction/lex.words", Rows.laid_junction_lex_words), ("junction/safety.needs", Rows.laid_junction_safety_needs)]
theorem doorN_met (os : Os) (args : Array Value) : laidMetH Tryz.prog laidN ((World.doorLaid Tryz.prog 400 os).forCall (fun _ _ => 0) ⟨#[], args, []⟩).memory :=
 laidMetH_of_parts3 (fuel := 8) (laidMet_of_run' 8 (by kernel_rfl) (by kernel_rfl)) (by kernel_rfl) (by kernel_rfl)
theorem ofN_laid {W : World} (h : laidMetH Tryz.prog laidN W) : Wt W ∧ Kt W ∧ SgT W ∧ Ndt W := by
 rw [MakeChecks.laidMetH_plain _ _ _ (by kernel_rfl)] at h
 have h1 := strs_of_head (zs := kwL) g1 tg1 u55 Tryz.underlying9 c9 c55 (rest := [("junction/junctionref2.signs", Rows.laid_junction_junctionref2_signs), ("junction/lex.words", Rows.laid_junction_lex_words), ("junction/safety.needs", Rows.laid_junction_safety_needs)]) h
 have h2 := strs_of_head (zs := sgL) g2 tg2 u56 Tryz.underlying9 c9 c56 (rest := [("junction/lex.words", Rows.laid_junction_lex_words), ("junction/safety.needs", Rows.laid_junction_safety_needs)]) h.tail
 have h3 := strs_of_head (zs := wdL) g0 tg0 u54 Tryz.underlying9 c9 c54 (rest := [("junction/safety.needs", Rows.laid_junction_safety_needs)]) h.tail.tail
 have h4 := ndt_of_head h.tail.tail.tail
 refine ⟨⟨lt_of_cell (h3 0 (by decide)), fun i hi => ?_⟩, ⟨lt_of_cell (h1 0 (by decide)), fun i hi => h1 i hi⟩, ⟨lt_of_cell (h2 0 (by decide)), fun i hi => h2 i hi⟩, h4⟩
 have := h3 i (by simpa [wdL] using hi)
 rw [wdL_get i hi] at this
 exact this
end Go.Proofs.YtjfieclmagbfbaaGreatDoor
